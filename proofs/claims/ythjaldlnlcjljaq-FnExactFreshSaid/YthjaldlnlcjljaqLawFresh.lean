/-
  The law FnExactFresh returns true at every argument and writes nothing that was there: the walk. No condition.
-/
import Derived.Test.YthjaldlnlcjljaqVoMark
import Derived.Test.YthjaldlnlcjljaqFreshIs
import Derived.Deep.RegionHeld3
namespace Go.Proofs.Ythjaldlnlcjljaq
open Go.RowKit
set_option maxRecDepth 20000 in
set_option maxHeartbeats 8000000 in
theorem lawFresh (lanes : Int) (near : Int) (hold : Int) (w : World)   :
    Calls Try.prog 4 #[.int .i64 lanes, .int .i64 near, .int .i64 hold] w fun x w' => x = .returned (.bool true) ∧ Below w.heap.size w w' := by
  have hq : (freOk lanes near hold != freOk lanes near hold) = false := by simp
  have FL := hide (fre_len (lanes := lanes) (near := near) (hold := hold))
  have hfl : (freB lanes near hold).length ≤ 5 ∧ (freO lanes near hold).length ≤ 5 := fre_len
  go_enter Try.func4, Try.ntmps4
  go_wp2_with fail
  have K : Hid (Below w.heap.size w w) := hide (Below.refl _ _)
  have KEPT : Hid (∀ W u3, (Below w.heap.size w W) → Below W.heap.size W u3 → (Below w.heap.size w u3)) := hide (fun W u3 h b => h.trans (b.mono h.size))
  refine (specFresh_any _ _ _ _  ).mono ?_
  rintro x w1 ⟨a1, c2, a3, c4, rfl, oW_0, b⟩
  have LW0 : Hid (VoLies w.heap.size w1.heap.size a1 a3 ((freB lanes near hold).length) c2 ((freO lanes near hold).length) c4) := hide oW_0.lies
  have S0 : Hid (w.heap.size ≤ w1.heap.size) := hide b.size
  have K : Hid (Below w.heap.size w w1) := hide ((unhide KEPT) _ _ (unhide K) b)
  have K : Hid (Below w.heap.size w w1 ∧ VoOwn w1 w.heap.size a1 a3 ((freB lanes near hold).length) c2 ((freO lanes near hold).length) c4 (freB lanes near hold) (freO lanes near hold)) := hide ⟨(unhide K), oW_0⟩
  clear KEPT
  have KEPT : Hid (∀ W u3, (Below w.heap.size w W ∧ VoOwn W w.heap.size a1 a3 ((freB lanes near hold).length) c2 ((freO lanes near hold).length) c4 (freB lanes near hold) (freO lanes near hold)) → Below W.heap.size W u3 → (Below w.heap.size w u3 ∧ VoOwn u3 w.heap.size a1 a3 ((freB lanes near hold).length) c2 ((freO lanes near hold).length) c4 (freB lanes near hold) (freO lanes near hold))) := hide (fun W u3 h b => ⟨h.1.trans (b.mono h.1.size), h.2.below b⟩)
  clear oW_0
  clear b
  obtain ⟨w2, hw2⟩ : ∃ V, V = w1.alloc (Obj.cells #[.int .i64 (freN lanes near hold), .int .i64 (freH lanes near hold), .slice a1 ((freB lanes near hold).length) c2, .slice a3 ((freO lanes near hold).length) c4] 28) := ⟨_, rfl⟩
  have b : Below w1.heap.size w1 w2 := by rw [hw2]; exact bel1 _
  have kx : Blk w2 w1.heap.size [.int .i64 (freN lanes near hold), .int .i64 (freH lanes near hold), .slice a1 ((freB lanes near hold).length) c2, .slice a3 ((freO lanes near hold).length) c4] := by rw [hw2]; exact Blk.new _ _
  have S1 : Hid (w1.heap.size + 1 ≤ w2.heap.size) := hide (by rw [hw2]; simp)
  have S2 : Hid (w1.heap.size ≤ w2.heap.size) := hide b.size
  have K : Hid (Below w.heap.size w w2 ∧ VoOwn w2 w.heap.size a1 a3 ((freB lanes near hold).length) c2 ((freO lanes near hold).length) c4 (freB lanes near hold) (freO lanes near hold)) := hide ((unhide KEPT) _ _ (unhide K) b)
  obtain ⟨X5, hX5⟩ : ∃ X, w1.heap.size = X := ⟨_, rfl⟩
  rw [hX5] at kx
  have S3 : Hid (w1.heap.size = X5) := hide hX5
  have K : Hid (Below w.heap.size w w2 ∧ VoOwn w2 w.heap.size a1 a3 ((freB lanes near hold).length) c2 ((freO lanes near hold).length) c4 (freB lanes near hold) (freO lanes near hold) ∧ Blk w2 X5 [.int .i64 (freN lanes near hold), .int .i64 (freH lanes near hold), .slice a1 ((freB lanes near hold).length) c2, .slice a3 ((freO lanes near hold).length) c4]) := hide ⟨(unhide K).1, (unhide K).2, kx⟩
  clear KEPT b kx
  have KEPT : Hid (∀ W u3, (Below w.heap.size w W ∧ VoOwn W w.heap.size a1 a3 ((freB lanes near hold).length) c2 ((freO lanes near hold).length) c4 (freB lanes near hold) (freO lanes near hold) ∧ Blk W X5 [.int .i64 (freN lanes near hold), .int .i64 (freH lanes near hold), .slice a1 ((freB lanes near hold).length) c2, .slice a3 ((freO lanes near hold).length) c4]) → Below W.heap.size W u3 → (Below w.heap.size w u3 ∧ VoOwn u3 w.heap.size a1 a3 ((freB lanes near hold).length) c2 ((freO lanes near hold).length) c4 (freB lanes near hold) (freO lanes near hold) ∧ Blk u3 X5 [.int .i64 (freN lanes near hold), .int .i64 (freH lanes near hold), .slice a1 ((freB lanes near hold).length) c2, .slice a3 ((freO lanes near hold).length) c4])) := hide (fun W u3 h b => ⟨h.1.trans (b.mono h.1.size), h.2.1.below b, h.2.2.below b⟩)
  have Hw2 := hide hw2
  have HX5 := hide hX5
  clear hw2 hX5
  go_wp2_with fail
  try rw [← unhide Hw2]
  try rw [unhide HX5]
  clear Hw2 HX5 
  refine (implFresh_any _ _ _ _  ).mono ?_
  rintro x w3 ⟨a6, c7, a8, c9, rfl, oG_0, b⟩
  have LG0 : Hid (VoLies w2.heap.size w3.heap.size a6 a8 ((freB lanes near hold).length) c7 ((freO lanes near hold).length) c9) := hide oG_0.lies
  have S4 : Hid (w2.heap.size ≤ w3.heap.size) := hide b.size
  have K : Hid (Below w.heap.size w w3 ∧ VoOwn w3 w.heap.size a1 a3 ((freB lanes near hold).length) c2 ((freO lanes near hold).length) c4 (freB lanes near hold) (freO lanes near hold) ∧ Blk w3 X5 [.int .i64 (freN lanes near hold), .int .i64 (freH lanes near hold), .slice a1 ((freB lanes near hold).length) c2, .slice a3 ((freO lanes near hold).length) c4]) := hide ((unhide KEPT) _ _ (unhide K) b)
  have K : Hid (Below w.heap.size w w3 ∧ VoOwn w3 w.heap.size a1 a3 ((freB lanes near hold).length) c2 ((freO lanes near hold).length) c4 (freB lanes near hold) (freO lanes near hold) ∧ Blk w3 X5 [.int .i64 (freN lanes near hold), .int .i64 (freH lanes near hold), .slice a1 ((freB lanes near hold).length) c2, .slice a3 ((freO lanes near hold).length) c4] ∧ VoOwn w3 w2.heap.size a6 a8 ((freB lanes near hold).length) c7 ((freO lanes near hold).length) c9 (freB lanes near hold) (freO lanes near hold)) := hide ⟨(unhide K).1, (unhide K).2.1, (unhide K).2.2, oG_0⟩
  clear KEPT
  have KEPT : Hid (∀ W u3, (Below w.heap.size w W ∧ VoOwn W w.heap.size a1 a3 ((freB lanes near hold).length) c2 ((freO lanes near hold).length) c4 (freB lanes near hold) (freO lanes near hold) ∧ Blk W X5 [.int .i64 (freN lanes near hold), .int .i64 (freH lanes near hold), .slice a1 ((freB lanes near hold).length) c2, .slice a3 ((freO lanes near hold).length) c4] ∧ VoOwn W w2.heap.size a6 a8 ((freB lanes near hold).length) c7 ((freO lanes near hold).length) c9 (freB lanes near hold) (freO lanes near hold)) → Below W.heap.size W u3 → (Below w.heap.size w u3 ∧ VoOwn u3 w.heap.size a1 a3 ((freB lanes near hold).length) c2 ((freO lanes near hold).length) c4 (freB lanes near hold) (freO lanes near hold) ∧ Blk u3 X5 [.int .i64 (freN lanes near hold), .int .i64 (freH lanes near hold), .slice a1 ((freB lanes near hold).length) c2, .slice a3 ((freO lanes near hold).length) c4] ∧ VoOwn u3 w2.heap.size a6 a8 ((freB lanes near hold).length) c7 ((freO lanes near hold).length) c9 (freB lanes near hold) (freO lanes near hold))) := hide (fun W u3 h b => ⟨h.1.trans (b.mono h.1.size), h.2.1.below b, h.2.2.1.below b, h.2.2.2.below b⟩)
  clear oG_0
  clear b
  obtain ⟨w4, hw4⟩ : ∃ V, V = w3.alloc (Obj.cells #[.int .i64 (freN lanes near hold), .int .i64 (freH lanes near hold), .slice a6 ((freB lanes near hold).length) c7, .slice a8 ((freO lanes near hold).length) c9] 28) := ⟨_, rfl⟩
  have b : Below w3.heap.size w3 w4 := by rw [hw4]; exact bel1 _
  have kx : Blk w4 w3.heap.size [.int .i64 (freN lanes near hold), .int .i64 (freH lanes near hold), .slice a6 ((freB lanes near hold).length) c7, .slice a8 ((freO lanes near hold).length) c9] := by rw [hw4]; exact Blk.new _ _
  have S5 : Hid (w3.heap.size + 1 ≤ w4.heap.size) := hide (by rw [hw4]; simp)
  have S6 : Hid (w3.heap.size ≤ w4.heap.size) := hide b.size
  have K : Hid (Below w.heap.size w w4 ∧ VoOwn w4 w.heap.size a1 a3 ((freB lanes near hold).length) c2 ((freO lanes near hold).length) c4 (freB lanes near hold) (freO lanes near hold) ∧ Blk w4 X5 [.int .i64 (freN lanes near hold), .int .i64 (freH lanes near hold), .slice a1 ((freB lanes near hold).length) c2, .slice a3 ((freO lanes near hold).length) c4] ∧ VoOwn w4 w2.heap.size a6 a8 ((freB lanes near hold).length) c7 ((freO lanes near hold).length) c9 (freB lanes near hold) (freO lanes near hold)) := hide ((unhide KEPT) _ _ (unhide K) b)
  have mQW00 : w4.cell? ⟨X5, 0, none⟩ = some (.int .i64 (freN lanes near hold)) := (unhide K).2.2.1.c 0 (by simp)
  have mQW01 : w4.cell? ⟨X5, 1, none⟩ = some (.int .i64 (freH lanes near hold)) := (unhide K).2.2.1.c 1 (by simp)
  have mQW02 : w4.cell? ⟨X5, 2, none⟩ = some (.slice a1 ((freB lanes near hold).length) c2) := (unhide K).2.2.1.c 2 (by simp)
  have mQW03 : w4.cell? ⟨X5, 3, none⟩ = some (.slice a3 ((freO lanes near hold).length) c4) := (unhide K).2.2.1.c 3 (by simp)
  rw [hw4] at mQW00 mQW01 mQW02 mQW03
  obtain ⟨X10, hX10⟩ : ∃ X, w3.heap.size = X := ⟨_, rfl⟩
  rw [hX10] at kx
  have S7 : Hid (w3.heap.size = X10) := hide hX10
  have K : Hid (Below w.heap.size w w4 ∧ VoOwn w4 w.heap.size a1 a3 ((freB lanes near hold).length) c2 ((freO lanes near hold).length) c4 (freB lanes near hold) (freO lanes near hold) ∧ Blk w4 X5 [.int .i64 (freN lanes near hold), .int .i64 (freH lanes near hold), .slice a1 ((freB lanes near hold).length) c2, .slice a3 ((freO lanes near hold).length) c4] ∧ VoOwn w4 w2.heap.size a6 a8 ((freB lanes near hold).length) c7 ((freO lanes near hold).length) c9 (freB lanes near hold) (freO lanes near hold) ∧ Blk w4 X10 [.int .i64 (freN lanes near hold), .int .i64 (freH lanes near hold), .slice a6 ((freB lanes near hold).length) c7, .slice a8 ((freO lanes near hold).length) c9]) := hide ⟨(unhide K).1, (unhide K).2.1, (unhide K).2.2.1, (unhide K).2.2.2, kx⟩
  clear KEPT b kx
  have KEPT : Hid (∀ W u3, (Below w.heap.size w W ∧ VoOwn W w.heap.size a1 a3 ((freB lanes near hold).length) c2 ((freO lanes near hold).length) c4 (freB lanes near hold) (freO lanes near hold) ∧ Blk W X5 [.int .i64 (freN lanes near hold), .int .i64 (freH lanes near hold), .slice a1 ((freB lanes near hold).length) c2, .slice a3 ((freO lanes near hold).length) c4] ∧ VoOwn W w2.heap.size a6 a8 ((freB lanes near hold).length) c7 ((freO lanes near hold).length) c9 (freB lanes near hold) (freO lanes near hold) ∧ Blk W X10 [.int .i64 (freN lanes near hold), .int .i64 (freH lanes near hold), .slice a6 ((freB lanes near hold).length) c7, .slice a8 ((freO lanes near hold).length) c9]) → Below W.heap.size W u3 → (Below w.heap.size w u3 ∧ VoOwn u3 w.heap.size a1 a3 ((freB lanes near hold).length) c2 ((freO lanes near hold).length) c4 (freB lanes near hold) (freO lanes near hold) ∧ Blk u3 X5 [.int .i64 (freN lanes near hold), .int .i64 (freH lanes near hold), .slice a1 ((freB lanes near hold).length) c2, .slice a3 ((freO lanes near hold).length) c4] ∧ VoOwn u3 w2.heap.size a6 a8 ((freB lanes near hold).length) c7 ((freO lanes near hold).length) c9 (freB lanes near hold) (freO lanes near hold) ∧ Blk u3 X10 [.int .i64 (freN lanes near hold), .int .i64 (freH lanes near hold), .slice a6 ((freB lanes near hold).length) c7, .slice a8 ((freO lanes near hold).length) c9])) := hide (fun W u3 h b => ⟨h.1.trans (b.mono h.1.size), h.2.1.below b, h.2.2.1.below b, h.2.2.2.1.below b, h.2.2.2.2.below b⟩)
  have Hw4 := hide hw4
  have HX10 := hide hX10
  clear hw4 hX10
  go_wp2_with fail
  try rw [← unhide Hw4]
  try rw [unhide HX10]
  clear Hw4 HX10 mQW00 mQW01 mQW02 mQW03
  refine (eqVoter_same _ _ _ _ _ _ _ _ _ _ _ _ _ _ _ (unhide K).2.2.2.1.read (unhide K).2.1.read).mono ?_
  rintro x w5 ⟨rfl, b⟩
  have S8 : Hid (w4.heap.size ≤ w5.heap.size) := hide b.size
  have K : Hid (Below w.heap.size w w5 ∧ VoOwn w5 w.heap.size a1 a3 ((freB lanes near hold).length) c2 ((freO lanes near hold).length) c4 (freB lanes near hold) (freO lanes near hold) ∧ Blk w5 X5 [.int .i64 (freN lanes near hold), .int .i64 (freH lanes near hold), .slice a1 ((freB lanes near hold).length) c2, .slice a3 ((freO lanes near hold).length) c4] ∧ VoOwn w5 w2.heap.size a6 a8 ((freB lanes near hold).length) c7 ((freO lanes near hold).length) c9 (freB lanes near hold) (freO lanes near hold) ∧ Blk w5 X10 [.int .i64 (freN lanes near hold), .int .i64 (freH lanes near hold), .slice a6 ((freB lanes near hold).length) c7, .slice a8 ((freO lanes near hold).length) c9]) := hide ((unhide KEPT) _ _ (unhide K) b)
  clear b
  have mQW00 : w5.cell? ⟨X5, 0, none⟩ = some (.int .i64 (freN lanes near hold)) := (unhide K).2.2.1.c 0 (by simp)
  have mQW01 : w5.cell? ⟨X5, 1, none⟩ = some (.int .i64 (freH lanes near hold)) := (unhide K).2.2.1.c 1 (by simp)
  have mQW02 : w5.cell? ⟨X5, 2, none⟩ = some (.slice a1 ((freB lanes near hold).length) c2) := (unhide K).2.2.1.c 2 (by simp)
  have mQW03 : w5.cell? ⟨X5, 3, none⟩ = some (.slice a3 ((freO lanes near hold).length) c4) := (unhide K).2.2.1.c 3 (by simp)
  have mQG00 : w5.cell? ⟨X10, 0, none⟩ = some (.int .i64 (freN lanes near hold)) := (unhide K).2.2.2.2.c 0 (by simp)
  have mQG01 : w5.cell? ⟨X10, 1, none⟩ = some (.int .i64 (freH lanes near hold)) := (unhide K).2.2.2.2.c 1 (by simp)
  have mQG02 : w5.cell? ⟨X10, 2, none⟩ = some (.slice a6 ((freB lanes near hold).length) c7) := (unhide K).2.2.2.2.c 2 (by simp)
  have mQG03 : w5.cell? ⟨X10, 3, none⟩ = some (.slice a8 ((freO lanes near hold).length) c9) := (unhide K).2.2.2.2.c 3 (by simp)
  go_wp2_with fail
  clear mQW00 mQW01 mQW02 mQW03 mQG00 mQG01 mQG02 mQG03
  refine (markVoter_own _ _ _ _ _ _ _ _ _ _ _ 1 _ (unhide K).2.2.2.1 (rfl) (by have := (unhide FL).1; omega) (rfl) (by have := (unhide FL).2; omega) (by omega) (by omega) _ _ (unhide LG0) (by have zz := (unhide K).1.size; have s0 := unhide S0; have s1 := unhide S1; have s2 := unhide S2; have s3 := unhide S3; have s4 := unhide S4; have s5 := unhide S5; have s6 := unhide S6; have s7 := unhide S7; have s8 := unhide S8; omega)).mono ?_
  rintro x w6 ⟨rfl, om, on⟩
  have S9 : Hid (w5.heap.size ≤ w6.heap.size) := hide on.size
  have K : Hid (Below w.heap.size w w6 ∧ VoOwn w6 w.heap.size a1 a3 ((freB lanes near hold).length) c2 ((freO lanes near hold).length) c4 (freB lanes near hold) (freO lanes near hold) ∧ Blk w6 X5 [.int .i64 (freN lanes near hold), .int .i64 (freH lanes near hold), .slice a1 ((freB lanes near hold).length) c2, .slice a3 ((freO lanes near hold).length) c4] ∧ VoOwn w6 w2.heap.size a6 a8 ((freB lanes near hold).length) c7 ((freO lanes near hold).length) c9 (markBo (freB lanes near hold) 1 ((freB lanes near hold).length)) (markI (freO lanes near hold) (1 + ((freB lanes near hold).length : Int)) ((freO lanes near hold).length)) ∧ Blk w6 X10 [.int .i64 (freN lanes near hold), .int .i64 (freH lanes near hold), .slice a6 ((freB lanes near hold).length) c7, .slice a8 ((freO lanes near hold).length) c9]) := hide ⟨below_only (unhide K).1 on (by have s0 := unhide S0; have s1 := unhide S1; have s2 := unhide S2; have s3 := unhide S3; have s4 := unhide S4; have s5 := unhide S5; have s6 := unhide S6; have s7 := unhide S7; have s8 := unhide S8; have s9 := unhide S9; omega) (Nat.le_refl _), (unhide K).2.1.only on (unhide LW0) (by have s0 := unhide S0; have s1 := unhide S1; have s2 := unhide S2; have s3 := unhide S3; have s4 := unhide S4; have s5 := unhide S5; have s6 := unhide S6; have s7 := unhide S7; have s8 := unhide S8; have s9 := unhide S9; omega), (unhide K).2.2.1.only on (by have s0 := unhide S0; have s1 := unhide S1; have s2 := unhide S2; have s3 := unhide S3; have s4 := unhide S4; have s5 := unhide S5; have s6 := unhide S6; have s7 := unhide S7; have s8 := unhide S8; have s9 := unhide S9; omega), om, (unhide K).2.2.2.2.only on (by have s0 := unhide S0; have s1 := unhide S1; have s2 := unhide S2; have s3 := unhide S3; have s4 := unhide S4; have s5 := unhide S5; have s6 := unhide S6; have s7 := unhide S7; have s8 := unhide S8; have s9 := unhide S9; omega)⟩
  clear KEPT om on
  have KEPT : Hid (∀ W u3, (Below w.heap.size w W ∧ VoOwn W w.heap.size a1 a3 ((freB lanes near hold).length) c2 ((freO lanes near hold).length) c4 (freB lanes near hold) (freO lanes near hold) ∧ Blk W X5 [.int .i64 (freN lanes near hold), .int .i64 (freH lanes near hold), .slice a1 ((freB lanes near hold).length) c2, .slice a3 ((freO lanes near hold).length) c4] ∧ VoOwn W w2.heap.size a6 a8 ((freB lanes near hold).length) c7 ((freO lanes near hold).length) c9 (markBo (freB lanes near hold) 1 ((freB lanes near hold).length)) (markI (freO lanes near hold) (1 + ((freB lanes near hold).length : Int)) ((freO lanes near hold).length)) ∧ Blk W X10 [.int .i64 (freN lanes near hold), .int .i64 (freH lanes near hold), .slice a6 ((freB lanes near hold).length) c7, .slice a8 ((freO lanes near hold).length) c9]) → Below W.heap.size W u3 → (Below w.heap.size w u3 ∧ VoOwn u3 w.heap.size a1 a3 ((freB lanes near hold).length) c2 ((freO lanes near hold).length) c4 (freB lanes near hold) (freO lanes near hold) ∧ Blk u3 X5 [.int .i64 (freN lanes near hold), .int .i64 (freH lanes near hold), .slice a1 ((freB lanes near hold).length) c2, .slice a3 ((freO lanes near hold).length) c4] ∧ VoOwn u3 w2.heap.size a6 a8 ((freB lanes near hold).length) c7 ((freO lanes near hold).length) c9 (markBo (freB lanes near hold) 1 ((freB lanes near hold).length)) (markI (freO lanes near hold) (1 + ((freB lanes near hold).length : Int)) ((freO lanes near hold).length)) ∧ Blk u3 X10 [.int .i64 (freN lanes near hold), .int .i64 (freH lanes near hold), .slice a6 ((freB lanes near hold).length) c7, .slice a8 ((freO lanes near hold).length) c9])) := hide (fun W u3 h b => ⟨h.1.trans (b.mono h.1.size), h.2.1.below b, h.2.2.1.below b, h.2.2.2.1.below b, h.2.2.2.2.below b⟩)
  have mQW00 : w6.cell? ⟨X5, 0, none⟩ = some (.int .i64 (freN lanes near hold)) := (unhide K).2.2.1.c 0 (by simp)
  have mQW01 : w6.cell? ⟨X5, 1, none⟩ = some (.int .i64 (freH lanes near hold)) := (unhide K).2.2.1.c 1 (by simp)
  have mQW02 : w6.cell? ⟨X5, 2, none⟩ = some (.slice a1 ((freB lanes near hold).length) c2) := (unhide K).2.2.1.c 2 (by simp)
  have mQW03 : w6.cell? ⟨X5, 3, none⟩ = some (.slice a3 ((freO lanes near hold).length) c4) := (unhide K).2.2.1.c 3 (by simp)
  have mQG00 : w6.cell? ⟨X10, 0, none⟩ = some (.int .i64 (freN lanes near hold)) := (unhide K).2.2.2.2.c 0 (by simp)
  have mQG01 : w6.cell? ⟨X10, 1, none⟩ = some (.int .i64 (freH lanes near hold)) := (unhide K).2.2.2.2.c 1 (by simp)
  have mQG02 : w6.cell? ⟨X10, 2, none⟩ = some (.slice a6 ((freB lanes near hold).length) c7) := (unhide K).2.2.2.2.c 2 (by simp)
  have mQG03 : w6.cell? ⟨X10, 3, none⟩ = some (.slice a8 ((freO lanes near hold).length) c9) := (unhide K).2.2.2.2.c 3 (by simp)
  go_wp2_with fail
  clear mQW00 mQW01 mQW02 mQW03 mQG00 mQG01 mQG02 mQG03
  refine (heldVoter_any _ _ _ _ _ _ _ _ _ _ _ 1 _ (unhide K).2.2.2.1 (rfl) (by have := (unhide FL).1; omega) (rfl) (by have := (unhide FL).2; omega) (by omega) (by omega)).mono ?_
  rintro x w7 ⟨rfl, b⟩
  have S10 : Hid (w6.heap.size ≤ w7.heap.size) := hide b.size
  have K : Hid (Below w.heap.size w w7 ∧ VoOwn w7 w.heap.size a1 a3 ((freB lanes near hold).length) c2 ((freO lanes near hold).length) c4 (freB lanes near hold) (freO lanes near hold) ∧ Blk w7 X5 [.int .i64 (freN lanes near hold), .int .i64 (freH lanes near hold), .slice a1 ((freB lanes near hold).length) c2, .slice a3 ((freO lanes near hold).length) c4] ∧ VoOwn w7 w2.heap.size a6 a8 ((freB lanes near hold).length) c7 ((freO lanes near hold).length) c9 (markBo (freB lanes near hold) 1 ((freB lanes near hold).length)) (markI (freO lanes near hold) (1 + ((freB lanes near hold).length : Int)) ((freO lanes near hold).length)) ∧ Blk w7 X10 [.int .i64 (freN lanes near hold), .int .i64 (freH lanes near hold), .slice a6 ((freB lanes near hold).length) c7, .slice a8 ((freO lanes near hold).length) c9]) := hide ((unhide KEPT) _ _ (unhide K) b)
  clear b
  have nq7 : ¬ (1 + ((freB lanes near hold).length : Int) + ((freO lanes near hold).length : Int) < 0) := by omega
  have nn7 : (1 + ((freB lanes near hold).length : Int) + ((freO lanes near hold).length : Int) != 1 + ((freB lanes near hold).length : Int) + ((freO lanes near hold).length : Int)) = false := by simp
  have mQW00 : w7.cell? ⟨X5, 0, none⟩ = some (.int .i64 (freN lanes near hold)) := (unhide K).2.2.1.c 0 (by simp)
  have mQW01 : w7.cell? ⟨X5, 1, none⟩ = some (.int .i64 (freH lanes near hold)) := (unhide K).2.2.1.c 1 (by simp)
  have mQW02 : w7.cell? ⟨X5, 2, none⟩ = some (.slice a1 ((freB lanes near hold).length) c2) := (unhide K).2.2.1.c 2 (by simp)
  have mQW03 : w7.cell? ⟨X5, 3, none⟩ = some (.slice a3 ((freO lanes near hold).length) c4) := (unhide K).2.2.1.c 3 (by simp)
  have mQG00 : w7.cell? ⟨X10, 0, none⟩ = some (.int .i64 (freN lanes near hold)) := (unhide K).2.2.2.2.c 0 (by simp)
  have mQG01 : w7.cell? ⟨X10, 1, none⟩ = some (.int .i64 (freH lanes near hold)) := (unhide K).2.2.2.2.c 1 (by simp)
  have mQG02 : w7.cell? ⟨X10, 2, none⟩ = some (.slice a6 ((freB lanes near hold).length) c7) := (unhide K).2.2.2.2.c 2 (by simp)
  have mQG03 : w7.cell? ⟨X10, 3, none⟩ = some (.slice a8 ((freO lanes near hold).length) c9) := (unhide K).2.2.2.2.c 3 (by simp)
  go_wp2_with fail
  clear mQW00 mQW01 mQW02 mQW03 mQG00 mQG01 mQG02 mQG03
  refine (implFresh_any _ _ _ _  ).mono ?_
  rintro x w8 ⟨a11, c12, a13, c14, rfl, oH_0, b⟩
  have LH0 : Hid (VoLies w7.heap.size w8.heap.size a11 a13 ((freB lanes near hold).length) c12 ((freO lanes near hold).length) c14) := hide oH_0.lies
  have S11 : Hid (w7.heap.size ≤ w8.heap.size) := hide b.size
  have K : Hid (Below w.heap.size w w8 ∧ VoOwn w8 w.heap.size a1 a3 ((freB lanes near hold).length) c2 ((freO lanes near hold).length) c4 (freB lanes near hold) (freO lanes near hold) ∧ Blk w8 X5 [.int .i64 (freN lanes near hold), .int .i64 (freH lanes near hold), .slice a1 ((freB lanes near hold).length) c2, .slice a3 ((freO lanes near hold).length) c4] ∧ VoOwn w8 w2.heap.size a6 a8 ((freB lanes near hold).length) c7 ((freO lanes near hold).length) c9 (markBo (freB lanes near hold) 1 ((freB lanes near hold).length)) (markI (freO lanes near hold) (1 + ((freB lanes near hold).length : Int)) ((freO lanes near hold).length)) ∧ Blk w8 X10 [.int .i64 (freN lanes near hold), .int .i64 (freH lanes near hold), .slice a6 ((freB lanes near hold).length) c7, .slice a8 ((freO lanes near hold).length) c9]) := hide ((unhide KEPT) _ _ (unhide K) b)
  have K : Hid (Below w.heap.size w w8 ∧ VoOwn w8 w.heap.size a1 a3 ((freB lanes near hold).length) c2 ((freO lanes near hold).length) c4 (freB lanes near hold) (freO lanes near hold) ∧ Blk w8 X5 [.int .i64 (freN lanes near hold), .int .i64 (freH lanes near hold), .slice a1 ((freB lanes near hold).length) c2, .slice a3 ((freO lanes near hold).length) c4] ∧ VoOwn w8 w2.heap.size a6 a8 ((freB lanes near hold).length) c7 ((freO lanes near hold).length) c9 (markBo (freB lanes near hold) 1 ((freB lanes near hold).length)) (markI (freO lanes near hold) (1 + ((freB lanes near hold).length : Int)) ((freO lanes near hold).length)) ∧ Blk w8 X10 [.int .i64 (freN lanes near hold), .int .i64 (freH lanes near hold), .slice a6 ((freB lanes near hold).length) c7, .slice a8 ((freO lanes near hold).length) c9] ∧ VoOwn w8 w7.heap.size a11 a13 ((freB lanes near hold).length) c12 ((freO lanes near hold).length) c14 (freB lanes near hold) (freO lanes near hold)) := hide ⟨(unhide K).1, (unhide K).2.1, (unhide K).2.2.1, (unhide K).2.2.2.1, (unhide K).2.2.2.2, oH_0⟩
  clear KEPT
  have KEPT : Hid (∀ W u3, (Below w.heap.size w W ∧ VoOwn W w.heap.size a1 a3 ((freB lanes near hold).length) c2 ((freO lanes near hold).length) c4 (freB lanes near hold) (freO lanes near hold) ∧ Blk W X5 [.int .i64 (freN lanes near hold), .int .i64 (freH lanes near hold), .slice a1 ((freB lanes near hold).length) c2, .slice a3 ((freO lanes near hold).length) c4] ∧ VoOwn W w2.heap.size a6 a8 ((freB lanes near hold).length) c7 ((freO lanes near hold).length) c9 (markBo (freB lanes near hold) 1 ((freB lanes near hold).length)) (markI (freO lanes near hold) (1 + ((freB lanes near hold).length : Int)) ((freO lanes near hold).length)) ∧ Blk W X10 [.int .i64 (freN lanes near hold), .int .i64 (freH lanes near hold), .slice a6 ((freB lanes near hold).length) c7, .slice a8 ((freO lanes near hold).length) c9] ∧ VoOwn W w7.heap.size a11 a13 ((freB lanes near hold).length) c12 ((freO lanes near hold).length) c14 (freB lanes near hold) (freO lanes near hold)) → Below W.heap.size W u3 → (Below w.heap.size w u3 ∧ VoOwn u3 w.heap.size a1 a3 ((freB lanes near hold).length) c2 ((freO lanes near hold).length) c4 (freB lanes near hold) (freO lanes near hold) ∧ Blk u3 X5 [.int .i64 (freN lanes near hold), .int .i64 (freH lanes near hold), .slice a1 ((freB lanes near hold).length) c2, .slice a3 ((freO lanes near hold).length) c4] ∧ VoOwn u3 w2.heap.size a6 a8 ((freB lanes near hold).length) c7 ((freO lanes near hold).length) c9 (markBo (freB lanes near hold) 1 ((freB lanes near hold).length)) (markI (freO lanes near hold) (1 + ((freB lanes near hold).length : Int)) ((freO lanes near hold).length)) ∧ Blk u3 X10 [.int .i64 (freN lanes near hold), .int .i64 (freH lanes near hold), .slice a6 ((freB lanes near hold).length) c7, .slice a8 ((freO lanes near hold).length) c9] ∧ VoOwn u3 w7.heap.size a11 a13 ((freB lanes near hold).length) c12 ((freO lanes near hold).length) c14 (freB lanes near hold) (freO lanes near hold))) := hide (fun W u3 h b => ⟨h.1.trans (b.mono h.1.size), h.2.1.below b, h.2.2.1.below b, h.2.2.2.1.below b, h.2.2.2.2.1.below b, h.2.2.2.2.2.below b⟩)
  clear oH_0
  clear b
  obtain ⟨w9, hw9⟩ : ∃ V, V = w8.alloc (Obj.cells #[.int .i64 (freN lanes near hold), .int .i64 (freH lanes near hold), .slice a11 ((freB lanes near hold).length) c12, .slice a13 ((freO lanes near hold).length) c14] 28) := ⟨_, rfl⟩
  have b : Below w8.heap.size w8 w9 := by rw [hw9]; exact bel1 _
  have kx : Blk w9 w8.heap.size [.int .i64 (freN lanes near hold), .int .i64 (freH lanes near hold), .slice a11 ((freB lanes near hold).length) c12, .slice a13 ((freO lanes near hold).length) c14] := by rw [hw9]; exact Blk.new _ _
  have S12 : Hid (w8.heap.size + 1 ≤ w9.heap.size) := hide (by rw [hw9]; simp)
  have S13 : Hid (w8.heap.size ≤ w9.heap.size) := hide b.size
  have K : Hid (Below w.heap.size w w9 ∧ VoOwn w9 w.heap.size a1 a3 ((freB lanes near hold).length) c2 ((freO lanes near hold).length) c4 (freB lanes near hold) (freO lanes near hold) ∧ Blk w9 X5 [.int .i64 (freN lanes near hold), .int .i64 (freH lanes near hold), .slice a1 ((freB lanes near hold).length) c2, .slice a3 ((freO lanes near hold).length) c4] ∧ VoOwn w9 w2.heap.size a6 a8 ((freB lanes near hold).length) c7 ((freO lanes near hold).length) c9 (markBo (freB lanes near hold) 1 ((freB lanes near hold).length)) (markI (freO lanes near hold) (1 + ((freB lanes near hold).length : Int)) ((freO lanes near hold).length)) ∧ Blk w9 X10 [.int .i64 (freN lanes near hold), .int .i64 (freH lanes near hold), .slice a6 ((freB lanes near hold).length) c7, .slice a8 ((freO lanes near hold).length) c9] ∧ VoOwn w9 w7.heap.size a11 a13 ((freB lanes near hold).length) c12 ((freO lanes near hold).length) c14 (freB lanes near hold) (freO lanes near hold)) := hide ((unhide KEPT) _ _ (unhide K) b)
  have mQW00 : w9.cell? ⟨X5, 0, none⟩ = some (.int .i64 (freN lanes near hold)) := (unhide K).2.2.1.c 0 (by simp)
  have mQW01 : w9.cell? ⟨X5, 1, none⟩ = some (.int .i64 (freH lanes near hold)) := (unhide K).2.2.1.c 1 (by simp)
  have mQW02 : w9.cell? ⟨X5, 2, none⟩ = some (.slice a1 ((freB lanes near hold).length) c2) := (unhide K).2.2.1.c 2 (by simp)
  have mQW03 : w9.cell? ⟨X5, 3, none⟩ = some (.slice a3 ((freO lanes near hold).length) c4) := (unhide K).2.2.1.c 3 (by simp)
  have mQG00 : w9.cell? ⟨X10, 0, none⟩ = some (.int .i64 (freN lanes near hold)) := (unhide K).2.2.2.2.1.c 0 (by simp)
  have mQG01 : w9.cell? ⟨X10, 1, none⟩ = some (.int .i64 (freH lanes near hold)) := (unhide K).2.2.2.2.1.c 1 (by simp)
  have mQG02 : w9.cell? ⟨X10, 2, none⟩ = some (.slice a6 ((freB lanes near hold).length) c7) := (unhide K).2.2.2.2.1.c 2 (by simp)
  have mQG03 : w9.cell? ⟨X10, 3, none⟩ = some (.slice a8 ((freO lanes near hold).length) c9) := (unhide K).2.2.2.2.1.c 3 (by simp)
  rw [hw9] at mQW00 mQW01 mQW02 mQW03 mQG00 mQG01 mQG02 mQG03
  obtain ⟨X15, hX15⟩ : ∃ X, w8.heap.size = X := ⟨_, rfl⟩
  rw [hX15] at kx
  have S14 : Hid (w8.heap.size = X15) := hide hX15
  have K : Hid (Below w.heap.size w w9 ∧ VoOwn w9 w.heap.size a1 a3 ((freB lanes near hold).length) c2 ((freO lanes near hold).length) c4 (freB lanes near hold) (freO lanes near hold) ∧ Blk w9 X5 [.int .i64 (freN lanes near hold), .int .i64 (freH lanes near hold), .slice a1 ((freB lanes near hold).length) c2, .slice a3 ((freO lanes near hold).length) c4] ∧ VoOwn w9 w2.heap.size a6 a8 ((freB lanes near hold).length) c7 ((freO lanes near hold).length) c9 (markBo (freB lanes near hold) 1 ((freB lanes near hold).length)) (markI (freO lanes near hold) (1 + ((freB lanes near hold).length : Int)) ((freO lanes near hold).length)) ∧ Blk w9 X10 [.int .i64 (freN lanes near hold), .int .i64 (freH lanes near hold), .slice a6 ((freB lanes near hold).length) c7, .slice a8 ((freO lanes near hold).length) c9] ∧ VoOwn w9 w7.heap.size a11 a13 ((freB lanes near hold).length) c12 ((freO lanes near hold).length) c14 (freB lanes near hold) (freO lanes near hold) ∧ Blk w9 X15 [.int .i64 (freN lanes near hold), .int .i64 (freH lanes near hold), .slice a11 ((freB lanes near hold).length) c12, .slice a13 ((freO lanes near hold).length) c14]) := hide ⟨(unhide K).1, (unhide K).2.1, (unhide K).2.2.1, (unhide K).2.2.2.1, (unhide K).2.2.2.2.1, (unhide K).2.2.2.2.2, kx⟩
  clear KEPT b kx
  have KEPT : Hid (∀ W u3, (Below w.heap.size w W ∧ VoOwn W w.heap.size a1 a3 ((freB lanes near hold).length) c2 ((freO lanes near hold).length) c4 (freB lanes near hold) (freO lanes near hold) ∧ Blk W X5 [.int .i64 (freN lanes near hold), .int .i64 (freH lanes near hold), .slice a1 ((freB lanes near hold).length) c2, .slice a3 ((freO lanes near hold).length) c4] ∧ VoOwn W w2.heap.size a6 a8 ((freB lanes near hold).length) c7 ((freO lanes near hold).length) c9 (markBo (freB lanes near hold) 1 ((freB lanes near hold).length)) (markI (freO lanes near hold) (1 + ((freB lanes near hold).length : Int)) ((freO lanes near hold).length)) ∧ Blk W X10 [.int .i64 (freN lanes near hold), .int .i64 (freH lanes near hold), .slice a6 ((freB lanes near hold).length) c7, .slice a8 ((freO lanes near hold).length) c9] ∧ VoOwn W w7.heap.size a11 a13 ((freB lanes near hold).length) c12 ((freO lanes near hold).length) c14 (freB lanes near hold) (freO lanes near hold) ∧ Blk W X15 [.int .i64 (freN lanes near hold), .int .i64 (freH lanes near hold), .slice a11 ((freB lanes near hold).length) c12, .slice a13 ((freO lanes near hold).length) c14]) → Below W.heap.size W u3 → (Below w.heap.size w u3 ∧ VoOwn u3 w.heap.size a1 a3 ((freB lanes near hold).length) c2 ((freO lanes near hold).length) c4 (freB lanes near hold) (freO lanes near hold) ∧ Blk u3 X5 [.int .i64 (freN lanes near hold), .int .i64 (freH lanes near hold), .slice a1 ((freB lanes near hold).length) c2, .slice a3 ((freO lanes near hold).length) c4] ∧ VoOwn u3 w2.heap.size a6 a8 ((freB lanes near hold).length) c7 ((freO lanes near hold).length) c9 (markBo (freB lanes near hold) 1 ((freB lanes near hold).length)) (markI (freO lanes near hold) (1 + ((freB lanes near hold).length : Int)) ((freO lanes near hold).length)) ∧ Blk u3 X10 [.int .i64 (freN lanes near hold), .int .i64 (freH lanes near hold), .slice a6 ((freB lanes near hold).length) c7, .slice a8 ((freO lanes near hold).length) c9] ∧ VoOwn u3 w7.heap.size a11 a13 ((freB lanes near hold).length) c12 ((freO lanes near hold).length) c14 (freB lanes near hold) (freO lanes near hold) ∧ Blk u3 X15 [.int .i64 (freN lanes near hold), .int .i64 (freH lanes near hold), .slice a11 ((freB lanes near hold).length) c12, .slice a13 ((freO lanes near hold).length) c14])) := hide (fun W u3 h b => ⟨h.1.trans (b.mono h.1.size), h.2.1.below b, h.2.2.1.below b, h.2.2.2.1.below b, h.2.2.2.2.1.below b, h.2.2.2.2.2.1.below b, h.2.2.2.2.2.2.below b⟩)
  have Hw9 := hide hw9
  have HX15 := hide hX15
  clear hw9 hX15
  go_wp2_with fail
  try rw [← unhide Hw9]
  try rw [unhide HX15]
  clear Hw9 HX15 mQW00 mQW01 mQW02 mQW03 mQG00 mQG01 mQG02 mQG03
  refine (eqVoter_same _ _ _ _ _ _ _ _ _ _ _ _ _ _ _ (unhide K).2.2.2.2.2.1.read (unhide K).2.1.read).mono ?_
  rintro x w10 ⟨rfl, b⟩
  have S15 : Hid (w9.heap.size ≤ w10.heap.size) := hide b.size
  have K : Hid (Below w.heap.size w w10 ∧ VoOwn w10 w.heap.size a1 a3 ((freB lanes near hold).length) c2 ((freO lanes near hold).length) c4 (freB lanes near hold) (freO lanes near hold) ∧ Blk w10 X5 [.int .i64 (freN lanes near hold), .int .i64 (freH lanes near hold), .slice a1 ((freB lanes near hold).length) c2, .slice a3 ((freO lanes near hold).length) c4] ∧ VoOwn w10 w2.heap.size a6 a8 ((freB lanes near hold).length) c7 ((freO lanes near hold).length) c9 (markBo (freB lanes near hold) 1 ((freB lanes near hold).length)) (markI (freO lanes near hold) (1 + ((freB lanes near hold).length : Int)) ((freO lanes near hold).length)) ∧ Blk w10 X10 [.int .i64 (freN lanes near hold), .int .i64 (freH lanes near hold), .slice a6 ((freB lanes near hold).length) c7, .slice a8 ((freO lanes near hold).length) c9] ∧ VoOwn w10 w7.heap.size a11 a13 ((freB lanes near hold).length) c12 ((freO lanes near hold).length) c14 (freB lanes near hold) (freO lanes near hold) ∧ Blk w10 X15 [.int .i64 (freN lanes near hold), .int .i64 (freH lanes near hold), .slice a11 ((freB lanes near hold).length) c12, .slice a13 ((freO lanes near hold).length) c14]) := hide ((unhide KEPT) _ _ (unhide K) b)
  clear b
  have mQW00 : w10.cell? ⟨X5, 0, none⟩ = some (.int .i64 (freN lanes near hold)) := (unhide K).2.2.1.c 0 (by simp)
  have mQW01 : w10.cell? ⟨X5, 1, none⟩ = some (.int .i64 (freH lanes near hold)) := (unhide K).2.2.1.c 1 (by simp)
  have mQW02 : w10.cell? ⟨X5, 2, none⟩ = some (.slice a1 ((freB lanes near hold).length) c2) := (unhide K).2.2.1.c 2 (by simp)
  have mQW03 : w10.cell? ⟨X5, 3, none⟩ = some (.slice a3 ((freO lanes near hold).length) c4) := (unhide K).2.2.1.c 3 (by simp)
  have mQG00 : w10.cell? ⟨X10, 0, none⟩ = some (.int .i64 (freN lanes near hold)) := (unhide K).2.2.2.2.1.c 0 (by simp)
  have mQG01 : w10.cell? ⟨X10, 1, none⟩ = some (.int .i64 (freH lanes near hold)) := (unhide K).2.2.2.2.1.c 1 (by simp)
  have mQG02 : w10.cell? ⟨X10, 2, none⟩ = some (.slice a6 ((freB lanes near hold).length) c7) := (unhide K).2.2.2.2.1.c 2 (by simp)
  have mQG03 : w10.cell? ⟨X10, 3, none⟩ = some (.slice a8 ((freO lanes near hold).length) c9) := (unhide K).2.2.2.2.1.c 3 (by simp)
  have mQH00 : w10.cell? ⟨X15, 0, none⟩ = some (.int .i64 (freN lanes near hold)) := (unhide K).2.2.2.2.2.2.c 0 (by simp)
  have mQH01 : w10.cell? ⟨X15, 1, none⟩ = some (.int .i64 (freH lanes near hold)) := (unhide K).2.2.2.2.2.2.c 1 (by simp)
  have mQH02 : w10.cell? ⟨X15, 2, none⟩ = some (.slice a11 ((freB lanes near hold).length) c12) := (unhide K).2.2.2.2.2.2.c 2 (by simp)
  have mQH03 : w10.cell? ⟨X15, 3, none⟩ = some (.slice a13 ((freO lanes near hold).length) c14) := (unhide K).2.2.2.2.2.2.c 3 (by simp)
  go_wp2_with fail
  clear mQW00 mQW01 mQW02 mQW03 mQG00 mQG01 mQG02 mQG03 mQH00 mQH01 mQH02 mQH03
  refine (heldVoter_any _ _ _ _ _ _ _ _ _ _ _ 1 _ (unhide K).2.2.2.1 (rfl) (by have := (unhide FL).1; omega) (rfl) (by have := (unhide FL).2; omega) (by omega) (by omega)).mono ?_
  rintro x w11 ⟨rfl, b⟩
  have S16 : Hid (w10.heap.size ≤ w11.heap.size) := hide b.size
  have K : Hid (Below w.heap.size w w11 ∧ VoOwn w11 w.heap.size a1 a3 ((freB lanes near hold).length) c2 ((freO lanes near hold).length) c4 (freB lanes near hold) (freO lanes near hold) ∧ Blk w11 X5 [.int .i64 (freN lanes near hold), .int .i64 (freH lanes near hold), .slice a1 ((freB lanes near hold).length) c2, .slice a3 ((freO lanes near hold).length) c4] ∧ VoOwn w11 w2.heap.size a6 a8 ((freB lanes near hold).length) c7 ((freO lanes near hold).length) c9 (markBo (freB lanes near hold) 1 ((freB lanes near hold).length)) (markI (freO lanes near hold) (1 + ((freB lanes near hold).length : Int)) ((freO lanes near hold).length)) ∧ Blk w11 X10 [.int .i64 (freN lanes near hold), .int .i64 (freH lanes near hold), .slice a6 ((freB lanes near hold).length) c7, .slice a8 ((freO lanes near hold).length) c9] ∧ VoOwn w11 w7.heap.size a11 a13 ((freB lanes near hold).length) c12 ((freO lanes near hold).length) c14 (freB lanes near hold) (freO lanes near hold) ∧ Blk w11 X15 [.int .i64 (freN lanes near hold), .int .i64 (freH lanes near hold), .slice a11 ((freB lanes near hold).length) c12, .slice a13 ((freO lanes near hold).length) c14]) := hide ((unhide KEPT) _ _ (unhide K) b)
  clear b
  have nq11 : ¬ (1 + ((freB lanes near hold).length : Int) + ((freO lanes near hold).length : Int) < 0) := by omega
  have nn11 : (1 + ((freB lanes near hold).length : Int) + ((freO lanes near hold).length : Int) != 1 + ((freB lanes near hold).length : Int) + ((freO lanes near hold).length : Int)) = false := by simp
  have mQW00 : w11.cell? ⟨X5, 0, none⟩ = some (.int .i64 (freN lanes near hold)) := (unhide K).2.2.1.c 0 (by simp)
  have mQW01 : w11.cell? ⟨X5, 1, none⟩ = some (.int .i64 (freH lanes near hold)) := (unhide K).2.2.1.c 1 (by simp)
  have mQW02 : w11.cell? ⟨X5, 2, none⟩ = some (.slice a1 ((freB lanes near hold).length) c2) := (unhide K).2.2.1.c 2 (by simp)
  have mQW03 : w11.cell? ⟨X5, 3, none⟩ = some (.slice a3 ((freO lanes near hold).length) c4) := (unhide K).2.2.1.c 3 (by simp)
  have mQG00 : w11.cell? ⟨X10, 0, none⟩ = some (.int .i64 (freN lanes near hold)) := (unhide K).2.2.2.2.1.c 0 (by simp)
  have mQG01 : w11.cell? ⟨X10, 1, none⟩ = some (.int .i64 (freH lanes near hold)) := (unhide K).2.2.2.2.1.c 1 (by simp)
  have mQG02 : w11.cell? ⟨X10, 2, none⟩ = some (.slice a6 ((freB lanes near hold).length) c7) := (unhide K).2.2.2.2.1.c 2 (by simp)
  have mQG03 : w11.cell? ⟨X10, 3, none⟩ = some (.slice a8 ((freO lanes near hold).length) c9) := (unhide K).2.2.2.2.1.c 3 (by simp)
  have mQH00 : w11.cell? ⟨X15, 0, none⟩ = some (.int .i64 (freN lanes near hold)) := (unhide K).2.2.2.2.2.2.c 0 (by simp)
  have mQH01 : w11.cell? ⟨X15, 1, none⟩ = some (.int .i64 (freH lanes near hold)) := (unhide K).2.2.2.2.2.2.c 1 (by simp)
  have mQH02 : w11.cell? ⟨X15, 2, none⟩ = some (.slice a11 ((freB lanes near hold).length) c12) := (unhide K).2.2.2.2.2.2.c 2 (by simp)
  have mQH03 : w11.cell? ⟨X15, 3, none⟩ = some (.slice a13 ((freO lanes near hold).length) c14) := (unhide K).2.2.2.2.2.2.c 3 (by simp)
  go_wp2_with fail
  clear mQW00 mQW01 mQW02 mQW03 mQG00 mQG01 mQG02 mQG03 mQH00 mQH01 mQH02 mQH03
  go_ret
  exact ⟨rfl, (unhide K).1⟩
end Go.Proofs.Ythjaldlnlcjljaq
