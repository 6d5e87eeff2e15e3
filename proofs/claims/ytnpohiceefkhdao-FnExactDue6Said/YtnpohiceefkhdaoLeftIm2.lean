/-
  What the program's Left6 answers: as the plain function. Nothing that was there is written.
-/
import Derived.Test.YtnpohiceefkhdaoLeftImpl
namespace Go.Proofs.Ytnpohiceefkhdao
open Go.RowKit

/-- Three numbers of 64 bits. -/
def fit3 (a b c : Int) : Prop := (-9223372036854775808 ≤ a ∧ a ≤ 9223372036854775807) ∧ (-9223372036854775808 ≤ b ∧ b ≤ 9223372036854775807) ∧ (-9223372036854775808 ≤ c ∧ c ≤ 9223372036854775807)
theorem row3 {w : World} {g : Nat} {a b c : Int} (h : Blk w g [.int .i64 a, .int .i64 b, .int .i64 c]) (hf : fit3 a b c) : Row w (some ⟨g, 0, none⟩) 3 [a, b, c] := by
  refine ⟨rfl, by omega, fun i hi => ⟨g, 0, rfl, ?_⟩, fun i => ?_⟩
  · rcases (show i = 0 ∨ i = 1 ∨ i = 2 from by omega) with rfl | rfl | rfl
    · exact h.c 0 (by simp)
    · exact h.c 1 (by simp)
    · exact h.c 2 (by simp)
  · obtain ⟨h0, h1, h2⟩ := hf
    match i with
    | 0 => exact h0
    | 1 => exact h1
    | 2 => exact h2
    | j + 3 => simp [nth]
theorem allWithin3 (g cap : Nat) (a b c M : Int) (w : World) (h : Blk w g [.int .i64 a, .int .i64 b, .int .i64 c]) (hf : fit3 a b c) :
    Calls Try.prog 37 #[.slice (some ⟨g, 0, none⟩) 3 cap, .int .i64 0, .int .i64 M] w fun e w' => e = .returned (.bool (in3 a b c M)) ∧ ∃ n, w' = w.drewN n := by
  rw [← in3_all]
  exact allWithin_any _ _ _ _ _ _ _ (row3 h hf)

theorem left_no1 {n m : ByteArray} {b0 b1 b2 s0 s1 s2 : Int} (h : nameB n = false) : leftOk n b0 b1 b2 m s0 s1 s2 = false := by simp [leftOk, h]

set_option maxRecDepth 20000 in
set_option maxHeartbeats 4000000 in
theorem implLeft6_any (n m : ByteArray) (b0 b1 b2 s0 s1 s2 : Int) (w : World) (hn : n.size ≤ 9223372036854775807) (hfb : fit3 b0 b1 b2) (hfs : fit3 s0 s1 s2) :
    Calls Try.prog 22 #[.agg #[.string n, .int .i64 b0, .int .i64 b1, .int .i64 b2], .agg #[.string m, .int .i64 s0, .int .i64 s1, .int .i64 s2]] w fun x w' => x = .returned (.tuple #[.int .i64 (leftR n b0 b1 b2 m s0 s1 s2).1, .int .i64 (leftR n b0 b1 b2 m s0 s1 s2).2.1, .bool (leftR n b0 b1 b2 m s0 s1 s2).2.2]) ∧ Below w.heap.size w w' := by
  have HFB := hide hfb
  have HFS := hide hfs
  clear hfb hfs
  go_enter Try.func22, Try.ntmps22
  go_wp2_with fail
  refine (lifeCounts_any n b0 b1 b2 _).mono ?_
  rintro x w1 ⟨rfl, b1'⟩
  have q0 : w1.cell? ⟨w.heap.size + 1, 0, none⟩ = some (.string m) := (b1'.cell (p := ⟨w.heap.size + 1, 0, none⟩) (by simp)).trans (by simp [go_sem])
  have q1 : w1.cell? ⟨w.heap.size + 1, 1, none⟩ = some (.int .i64 s0) := (b1'.cell (p := ⟨w.heap.size + 1, 1, none⟩) (by simp)).trans (by simp [go_sem])
  have q2 : w1.cell? ⟨w.heap.size + 1, 2, none⟩ = some (.int .i64 s1) := (b1'.cell (p := ⟨w.heap.size + 1, 2, none⟩) (by simp)).trans (by simp [go_sem])
  have q3 : w1.cell? ⟨w.heap.size + 1, 3, none⟩ = some (.int .i64 s2) := (b1'.cell (p := ⟨w.heap.size + 1, 3, none⟩) (by simp)).trans (by simp [go_sem])
  have z1 : w.heap.size + 2 ≤ w1.heap.size := by have := b1'.size; simp at this; omega
  have z1' : w.heap.size + 1 < w1.heap.size := by omega
  have B1 := hide ((bel2 _ _).trans (b1'.mono (by simp; omega)))
  clear b1'
  go_wp2_with fail
  refine (stayCounts_any m s0 s1 s2 _).mono ?_
  rintro x w2 ⟨rfl, b2'⟩
  have RB : Blk w2 w1.heap.size [.int .i64 b0, .int .i64 b1, .int .i64 b2] :=
    Blk.below ⟨fun i hi => by
      rcases (show i = 0 ∨ i = 1 ∨ i = 2 from by simp at hi; omega) with rfl | rfl | rfl <;> simp [go_sem], fun i hi => by
      rcases (show i = 0 ∨ i = 1 ∨ i = 2 from by simp at hi; omega) with rfl | rfl | rfl <;> simp [go_sem], by simp⟩ b2'
  have B2 : Below w.heap.size w w2 := by
    refine Below.trans ?_ (b2'.mono (by simp; omega))
    repeat (first | exact unhide B1 | refine Below.setCell ?_ (by simp; omega) _ | refine Below.alloc ?_ (by omega) _)
  have z2 := RB.lt
  clear b2' q0 q1 q2 q3
  obtain ⟨W, hW⟩ : ∃ W, W = w2.alloc (Obj.cells #[.int .i64 s0, .int .i64 s1, .int .i64 s2] 73) := ⟨_, rfl⟩
  have RB3 : Hid (Blk W w1.heap.size [.int .i64 b0, .int .i64 b1, .int .i64 b2]) := hide (by rw [hW]; exact RB.alloc _)
  have RS3 : Hid (Blk W w2.heap.size [.int .i64 s0, .int .i64 s1, .int .i64 s2]) := hide (by rw [hW]; exact Blk.new _ _)
  have B3 : Hid (Below w.heap.size w W) := hide (by rw [hW]; exact B2.alloc B2.size _)
  have HW := hide hW
  clear hW RB B2
  cases g1 : nameB n with
  | false =>
    have HE := hide (leftR_no (n := n) (m := m) (b0 := b0) (b1 := b1) (b2 := b2) (s0 := s0) (s1 := s1) (s2 := s2) (by simp [leftOk, g1]))
    go_wp2_with fail
    rw [← unhide HW]
    refine (nameOk_any _ _ hn).mono ?_
    rintro x w' ⟨rfl, hw⟩
    subst w'
    go_wp2_with fail
    go_ret3
    exact ⟨ret_left (unhide HE).symm, unhide B3⟩
  | true =>
  have G1 := hide g1
  clear g1
  cases g2 : (m.toList == n.toList) with
  | false =>
    have HE := hide (leftR_no (n := n) (m := m) (b0 := b0) (b1 := b1) (b2 := b2) (s0 := s0) (s1 := s1) (s2 := s2) (by simp only [leftOk, g2, Bool.and_false, Bool.false_and]))
    go_wp2_with fail
    rw [← unhide HW]
    refine (nameOk_any _ _ hn).mono ?_
    rintro x w' ⟨rfl, hw⟩
    subst w'
    have g1 := unhide G1
    go_wp2_with fail
    go_ret3
    exact ⟨ret_left (unhide HE).symm, unhide B3⟩
  | true =>
  have G2 := hide g2
  clear g2
  cases g3 : in3 b0 b1 b2 1000000 with
  | false =>
    have HE := hide (leftR_no (n := n) (m := m) (b0 := b0) (b1 := b1) (b2 := b2) (s0 := s0) (s1 := s1) (s2 := s2) (by simp only [leftOk, g3, Bool.and_false, Bool.false_and]))
    have G3 := hide g3
    clear g3
    go_wp2_with fail
    rw [← unhide HW]
    refine (nameOk_any _ _ hn).mono ?_
    rintro x w' ⟨rfl, hw⟩
    subst w'
    have g1 := unhide G1
    have g2 := unhide G2
    go_wp2_with fail
    refine (allWithin3 _ _ _ _ _ _ _ (unhide RB3) (unhide HFB)).mono ?_
    rintro x w4 ⟨rfl, n4, rfl⟩
    have g3 := unhide G3
    go_wp2_with fail
    go_ret3
    exact ⟨ret_left (unhide HE).symm, (unhide B3).trans (bel0d' _)⟩
  | true =>
  have G3 := hide g3
  clear g3
  cases g4 : in3 s0 s1 s2 10000000 with
  | false =>
    have HE := hide (leftR_no (n := n) (m := m) (b0 := b0) (b1 := b1) (b2 := b2) (s0 := s0) (s1 := s1) (s2 := s2) (by simp only [leftOk, g4, Bool.and_false]))
    have G4 := hide g4
    clear g4
    go_wp2_with fail
    rw [← unhide HW]
    refine (nameOk_any _ _ hn).mono ?_
    rintro x w' ⟨rfl, hw⟩
    subst w'
    have g1 := unhide G1
    have g2 := unhide G2
    go_wp2_with fail
    refine (allWithin3 _ _ _ _ _ _ _ (unhide RB3) (unhide HFB)).mono ?_
    rintro x w4 ⟨rfl, n4, rfl⟩
    have g3 := unhide G3
    go_wp2_with fail
    refine (allWithin3 _ _ _ _ _ _ _ ((unhide RS3).drewN _) (unhide HFS)).mono ?_
    rintro x w5 ⟨rfl, n5, rfl⟩
    have g4 := unhide G4
    go_wp2_with fail
    go_ret3
    exact ⟨ret_left (unhide HE).symm, (unhide B3).trans (bel0d' _)⟩
  | true =>
  have HOK : Hid (leftOk n b0 b1 b2 m s0 s1 s2 = true) := hide (by unfold leftOk; rw [unhide G1, unhide G2, unhide G3, g4]; rfl)
  have G4 := hide g4
  clear g4
  go_wp2_with fail
  rw [← unhide HW]
  refine (nameOk_any _ _ hn).mono ?_
  rintro x w' ⟨rfl, hw⟩
  subst w'
  have g1 := unhide G1
  have g2 := unhide G2
  go_wp2_with fail
  refine (allWithin3 _ _ _ _ _ _ _ (unhide RB3) (unhide HFB)).mono ?_
  rintro x w4 ⟨rfl, n4, rfl⟩
  have g3 := unhide G3
  go_wp2_with fail
  refine (allWithin3 _ _ _ _ _ _ _ ((unhide RS3).drewN _) (unhide HFS)).mono ?_
  rintro x w5 ⟨rfl, n5, rfl⟩
  have g4 := unhide G4
  have c0 : W.cell? ⟨w1.heap.size, 0, none⟩ = some (.int .i64 b0) := (unhide RB3).c 0 (by simp)
  have c1 : W.cell? ⟨w1.heap.size, 1, none⟩ = some (.int .i64 b1) := (unhide RB3).c 1 (by simp)
  have c2 : W.cell? ⟨w1.heap.size, 2, none⟩ = some (.int .i64 b2) := (unhide RB3).c 2 (by simp)
  have e0 : W.cell? ⟨w2.heap.size, 0, none⟩ = some (.int .i64 s0) := (unhide RS3).c 0 (by simp)
  have e1 : W.cell? ⟨w2.heap.size, 1, none⟩ = some (.int .i64 s1) := (unhide RS3).c 1 (by simp)
  have e2 : W.cell? ⟨w2.heap.size, 2, none⟩ = some (.int .i64 s2) := (unhide RS3).c 2 (by simp)
  have B4 := hide ((unhide B3).trans (bel0d' (n4 + n5)))
  have RB4 := hide ((unhide RB3).drewN (n4 + n5))
  have RS4 := hide ((unhide RS3).drewN (n4 + n5))
  go_wp2_with fail
  refine (mostUsed_any _ _ _ _ _ _ _ (unhide G3) (unhide G4)).mono ?_
  rintro x w6 ⟨rfl, b6⟩
  have RB6 := (unhide RB4).below b6
  have RS6 := (unhide RS4).below b6
  have B6 := hide ((unhide B4).trans (b6.mono (unhide B4).size))
  clear b6 c0 c1 c2 e0 e1 e2 g1 g2 g3 g4
  have c0 : w6.cell? ⟨w1.heap.size, 0, none⟩ = some (.int .i64 b0) := RB6.c 0 (by simp)
  have c1 : w6.cell? ⟨w1.heap.size, 1, none⟩ = some (.int .i64 b1) := RB6.c 1 (by simp)
  have c2 : w6.cell? ⟨w1.heap.size, 2, none⟩ = some (.int .i64 b2) := RB6.c 2 (by simp)
  have e0 : w6.cell? ⟨w2.heap.size, 0, none⟩ = some (.int .i64 s0) := RS6.c 0 (by simp)
  have e1 : w6.cell? ⟨w2.heap.size, 1, none⟩ = some (.int .i64 s1) := RS6.c 1 (by simp)
  have e2 : w6.cell? ⟨w2.heap.size, 2, none⟩ = some (.int .i64 s2) := RS6.c 2 (by simp)
  clear RB6 RS6
  obtain ⟨hb0, hb1, hb2⟩ := in3_facts (unhide G3)
  obtain ⟨hs0, hs1, hs2⟩ := in3_facts (unhide G4)
  have hin := mostTo_in b0 b1 b2 s0 s1 s2 3
  obtain ⟨M, hM⟩ : ∃ M, leftM b0 b1 b2 s0 s1 s2 = M := ⟨_, rfl⟩
  have hin : M = -1 ∨ (0 ≤ M ∧ M < 3) := by rw [← hM]; exact hin
  have HM := hide hM
  rw [hM]
  clear hM
  rcases (show M = -1 ∨ M = 0 ∨ M = 1 ∨ M = 2 from by omega) with rfl | rfl | rfl | rfl
  · have HE := hide (leftR_none (n := n) (m := m) (unhide HM))
    go_wp2_with fail
    go_ret3
    exact ⟨ret_left (unhide HE).symm, unhide B6⟩
  all_goals
    have HE := hide (leftR_yes (n := n) (m := m) (unhide HOK) (by rw [unhide HM]; decide))
    rw [unhide HM] at HE
    go_wp2_with fail
    go_quiet (fail)
    go_wp2_with fail
    go_ret3
    exact ⟨ret_left (unhide HE).symm, (unhide B6).trans (bel0d' _)⟩

end Go.Proofs.Ytnpohiceefkhdao
