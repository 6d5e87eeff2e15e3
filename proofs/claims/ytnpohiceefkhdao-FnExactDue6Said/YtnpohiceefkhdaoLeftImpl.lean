/-
  What the program's nameAndCounts, mostUsed and Left6 answer: as the plain functions. Nothing that was there is written.
-/
import Derived.Test.YtnpohiceefkhdaoNameIs
import Derived.Test.YtnpohiceefkhdaoLeftPure
import Derived.Test.YtnpohiceefkhdaoBlk
namespace Go.Proofs.Ytnpohiceefkhdao
open Go.RowKit

set_option maxHeartbeats 2000000 in
theorem lifeCounts_any (n : ByteArray) (a b c : Int) (w : World) :
    Calls Try.prog 45 #[.agg #[.string n, .int .i64 a, .int .i64 b, .int .i64 c]] w fun x w' => x = .returned (.tuple #[.string n, .agg #[.int .i64 a, .int .i64 b, .int .i64 c]]) ∧ Below w.heap.size w w' := by
  go_enter Try.func45, Try.ntmps45
  go_wp2_with fail
  go_region
  all_goals
    go_wp2_with fail
    refine bodyPost_ret (v := .tuple #[.string n, .agg #[.int .i64 a, .int .i64 b, .int .i64 c]]) (by simp [results, Try.results45, go_sem]) rfl ⟨rfl, ?_⟩
    repeat (first | exact Below.refl _ _ | refine Below.trans ?_ (bel0d' _) | refine Below.setCell ?_ (by simp; try omega) _ | refine Below.alloc ?_ (by simp; try omega) _)

set_option maxHeartbeats 2000000 in
theorem stayCounts_any (n : ByteArray) (a b c : Int) (w : World) :
    Calls Try.prog 46 #[.agg #[.string n, .int .i64 a, .int .i64 b, .int .i64 c]] w fun x w' => x = .returned (.tuple #[.string n, .agg #[.int .i64 a, .int .i64 b, .int .i64 c]]) ∧ Below w.heap.size w w' := by
  go_enter Try.func46, Try.ntmps46
  go_wp2_with fail
  go_region
  all_goals
    go_wp2_with fail
    refine bodyPost_ret (v := .tuple #[.string n, .agg #[.int .i64 a, .int .i64 b, .int .i64 c]]) (by simp [results, Try.results46, go_sem]) rfl ⟨rfl, ?_⟩
    repeat (first | exact Below.refl _ _ | refine Below.trans ?_ (bel0d' _) | refine Below.setCell ?_ (by simp; try omega) _ | refine Below.alloc ?_ (by simp; try omega) _)

theorem run_ix {i : Int} {n : Nat} {v : Value} (cs : Array Value) (w : World) (hi : i = (n : Int)) (hn : n < 3) (hv : cs[n]? = some v) (hc : ∃ k m, v = .int k m) :
    (Instr.index 73 (.agg cs) (.int .i64 i)).run Try.prog w = .ok v w := by
  subst hi
  obtain ⟨k, m, rfl⟩ := hc
  have h1 : (0 : Int) ≤ (n : Int) ∧ (n : Int) < 3 := by omega
  simp [Instr.index, asIntOf, go_sem, hv, hn]
theorem run_ix0 (a b c : Int) (w : World) : (Instr.index 73 (.agg #[.int .i64 a, .int .i64 b, .int .i64 c]) (.int .i64 0)).run Try.prog w = .ok (.int .i64 a) w := run_ix (n := 0) _ _ rfl (by omega) rfl ⟨_, _, rfl⟩
theorem run_ix1 (a b c : Int) (w : World) : (Instr.index 73 (.agg #[.int .i64 a, .int .i64 b, .int .i64 c]) (.int .i64 1)).run Try.prog w = .ok (.int .i64 b) w := run_ix (n := 1) _ _ rfl (by omega) rfl ⟨_, _, rfl⟩
theorem run_ix2 (a b c : Int) (w : World) : (Instr.index 73 (.agg #[.int .i64 a, .int .i64 b, .int .i64 c]) (.int .i64 2)).run Try.prog w = .ok (.int .i64 c) w := run_ix (n := 2) _ _ rfl (by omega) rfl ⟨_, _, rfl⟩
attribute [local go_sem high] run_ix0 run_ix1 run_ix2

theorem prod_bd {s b : Int} (h : 0 ≤ s ∧ s ≤ 10000000) (h2 : 0 ≤ b ∧ b ≤ 1000000) : 0 ≤ s * b ∧ s * b ≤ 10000000000000 := by
  have a : 0 ≤ s * b := Int.mul_nonneg h.1 h2.1
  have c := (mulBd (s := s) (d := b) (A := 10000000) (B := 1000000) (by omega) h.2 (by omega) h2.2 (by omega) (by omega)).2
  constructor <;> omega

set_option maxRecDepth 20000 in
set_option maxHeartbeats 4000000 in
theorem mostUsed_any (b0 b1 b2 s0 s1 s2 : Int) (w : World) (hb : in3 b0 b1 b2 1000000 = true) (hs : in3 s0 s1 s2 10000000 = true) :
    Calls Try.prog 48 #[.agg #[.int .i64 b0, .int .i64 b1, .int .i64 b2], .agg #[.int .i64 s0, .int .i64 s1, .int .i64 s2]] w fun x w' => x = .returned (.int .i64 (leftM b0 b1 b2 s0 s1 s2)) ∧ Below w.heap.size w w' := by
  obtain ⟨hb0, hb1, hb2⟩ := in3_facts hb
  obtain ⟨hs0, hs1, hs2⟩ := in3_facts hs
  have p01 := prod_bd hs0 hb1
  have p02 := prod_bd hs0 hb2
  have p10 := prod_bd hs1 hb0
  have p12 := prod_bd hs1 hb2
  have p20 := prod_bd hs2 hb0
  have p21 := prod_bd hs2 hb1
  clear hb hs
  have R0 := hide ((Blk.new (w := w) [.int .i64 b0, .int .i64 b1, .int .i64 b2] 73).alloc (Obj.cells #[.int .i64 s0, .int .i64 s1, .int .i64 s2] 73))
  have R1 : Hid (Blk ((w.alloc (Obj.cells #[.int .i64 b0, .int .i64 b1, .int .i64 b2] 73)).alloc (Obj.cells #[.int .i64 s0, .int .i64 s1, .int .i64 s2] 73)) (w.heap.size + 1) [.int .i64 s0, .int .i64 s1, .int .i64 s2]) := hide (by
    have := Blk.new (w := w.alloc (Obj.cells #[.int .i64 b0, .int .i64 b1, .int .i64 b2] 73)) [.int .i64 s0, .int .i64 s1, .int .i64 s2] 73
    simpa using this)
  have B0 := hide (bel2 (w := w) (Obj.cells #[.int .i64 b0, .int .i64 b1, .int .i64 b2] 73) (Obj.cells #[.int .i64 s0, .int .i64 s1, .int .i64 s2] 73))
  go_enter Try.func48, Try.ntmps48
  go_wp2_with fail
  go_loopw [5, 9] (fun mv iv wr => ∃ (k : Nat) (M : Int), k ≤ 3 ∧ mv = .int .i64 M ∧ iv = .int .i64 k ∧ Hid (mostTo b0 b1 b2 s0 s1 s2 k = M) ∧ Blk wr w.heap.size [.int .i64 b0, .int .i64 b1, .int .i64 b2] ∧ Blk wr (w.heap.size + 1) [.int .i64 s0, .int .i64 s1, .int .i64 s2] ∧ Below w.heap.size w wr) (fun _ i _ => 3 - (intOf i).toNat)
  case atStart => exact ⟨0, -1, by omega, rfl, rfl, hide rfl, unhide R0, unhide R1, unhide B0⟩
  case round =>
    clear R0 R1 B0
    obtain ⟨k, M, hk, rfl, rfl, HM, hB, hS, hbel⟩ := hrel
    have hin := mostTo_in b0 b1 b2 s0 s1 s2 k
    rw [unhide HM] at hin
    have c0 : wr.cell? ⟨w.heap.size, 0, none⟩ = some (.int .i64 b0) := hB.c 0 (by simp)
    have c1 : wr.cell? ⟨w.heap.size, 1, none⟩ = some (.int .i64 b1) := hB.c 1 (by simp)
    have c2 : wr.cell? ⟨w.heap.size, 2, none⟩ = some (.int .i64 b2) := hB.c 2 (by simp)
    have e0 : wr.cell? ⟨w.heap.size + 1, 0, none⟩ = some (.int .i64 s0) := hS.c 0 (by simp)
    have e1 : wr.cell? ⟨w.heap.size + 1, 1, none⟩ = some (.int .i64 s1) := hS.c 1 (by simp)
    have e2 : wr.cell? ⟨w.heap.size + 1, 2, none⟩ = some (.int .i64 s2) := hS.c 2 (by simp)
    have HB := hide hB
    have HS := hide hS
    have HL := hide hbel
    clear hB hS hbel
    rcases (show k = 0 ∨ k = 1 ∨ k = 2 ∨ k = 3 from by omega) with rfl | rfl | rfl | rfl
    · obtain rfl : M = -1 := by omega
      by_cases hz : b0 = 0
      · have HN := hide (mostTo_no (k := 0) (b0 := b0) (b1 := b1) (b2 := b2) (s0 := s0) (s1 := s1) (s2 := s2) (by rw [unhide HM]; simp [moreB, of3, hz]))
        have hz' : (b0 == 0) = true := by simpa using hz
        clear hz
        go_wp2_with fail
        go_roundw
        case rel => exact ⟨1, -1, by omega, rfl, by go_num, hide (by rw [unhide HN, unhide HM]), unhide HB, unhide HS, unhide HL⟩
        case measure => simp [intOf]
      · have HN := hide (mostTo_yes (k := 0) (b0 := b0) (b1 := b1) (b2 := b2) (s0 := s0) (s1 := s1) (s2 := s2) (by rw [unhide HM]; simp [moreB, of3, hz]))
        go_wp2_with fail
        go_quiet (fail)
        go_wp2_with fail
        go_roundw
        case rel => exact ⟨1, 0, by omega, rfl, by go_num, hide (by rw [unhide HN]; rfl), (unhide HB).drewN _, (unhide HS).drewN _, (unhide HL).trans (bel0d' _)⟩
        case measure => simp [intOf]
    · rcases (show M = -1 ∨ M = 0 from by omega) with rfl | rfl
      · by_cases hz : b1 = 0
        · have HN := hide (mostTo_no (k := 1) (b0 := b0) (b1 := b1) (b2 := b2) (s0 := s0) (s1 := s1) (s2 := s2) (by rw [unhide HM]; simp [moreB, of3, hz]))
          have hz' : (b1 == 0) = true := by simpa using hz
          clear hz
          go_wp2_with fail
          go_roundw
          case rel => exact ⟨2, -1, by omega, rfl, by go_num, hide (by rw [unhide HN, unhide HM]), unhide HB, unhide HS, unhide HL⟩
          case measure => simp [intOf]
        · have HN := hide (mostTo_yes (k := 1) (b0 := b0) (b1 := b1) (b2 := b2) (s0 := s0) (s1 := s1) (s2 := s2) (by rw [unhide HM]; simp [moreB, of3, hz]))
          go_wp2_with fail
          go_quiet (fail)
          go_wp2_with fail
          go_roundw
          case rel => exact ⟨2, 1, by omega, rfl, by go_num, hide (by rw [unhide HN]; rfl), (unhide HB).drewN _, (unhide HS).drewN _, (unhide HL).trans (bel0d' _)⟩
          case measure => simp [intOf]
      · by_cases hz : b1 = 0
        · have HN := hide (mostTo_no (k := 1) (b0 := b0) (b1 := b1) (b2 := b2) (s0 := s0) (s1 := s1) (s2 := s2) (by rw [unhide HM]; simp [moreB, of3, hz]))
          have hz' : (b1 == 0) = true := by simpa using hz
          clear hz
          go_wp2_with fail
          go_roundw
          case rel => exact ⟨2, 0, by omega, rfl, by go_num, hide (by rw [unhide HN, unhide HM]), unhide HB, unhide HS, unhide HL⟩
          case measure => simp [intOf]
        · by_cases hc : s0 * b1 < s1 * b0
          · have HN := hide (mostTo_yes (k := 1) (b0 := b0) (b1 := b1) (b2 := b2) (s0 := s0) (s1 := s1) (s2 := s2) (by rw [unhide HM]; simp [moreB, of3, hz, hc]))
            go_wp2_with fail
            go_quiet (fail)
            go_wp2_with fail
            go_roundw
            case rel => exact ⟨2, 1, by omega, rfl, by go_num, hide (by rw [unhide HN]; rfl), (unhide HB).drewN _, (unhide HS).drewN _, (unhide HL).trans (bel0d' _)⟩
            case measure => simp [intOf]
          · have HN := hide (mostTo_no (k := 1) (b0 := b0) (b1 := b1) (b2 := b2) (s0 := s0) (s1 := s1) (s2 := s2) (by rw [unhide HM]; simp [moreB, of3]; intro _; omega))
            go_wp2_with fail
            go_quiet (fail)
            go_wp2_with fail
            go_roundw
            case rel => exact ⟨2, 0, by omega, rfl, by go_num, hide (by rw [unhide HN, unhide HM]), (unhide HB).drewN _, (unhide HS).drewN _, (unhide HL).trans (bel0d' _)⟩
            case measure => simp [intOf]
    · rcases (show M = -1 ∨ M = 0 ∨ M = 1 from by omega) with rfl | rfl | rfl
      · by_cases hz : b2 = 0
        · have HN := hide (mostTo_no (k := 2) (b0 := b0) (b1 := b1) (b2 := b2) (s0 := s0) (s1 := s1) (s2 := s2) (by rw [unhide HM]; simp [moreB, of3, hz]))
          have hz' : (b2 == 0) = true := by simpa using hz
          clear hz
          go_wp2_with fail
          go_roundw
          case rel => exact ⟨3, -1, by omega, rfl, by go_num, hide (by rw [unhide HN, unhide HM]), unhide HB, unhide HS, unhide HL⟩
          case measure => simp [intOf]
        · have HN := hide (mostTo_yes (k := 2) (b0 := b0) (b1 := b1) (b2 := b2) (s0 := s0) (s1 := s1) (s2 := s2) (by rw [unhide HM]; simp [moreB, of3, hz]))
          go_wp2_with fail
          go_quiet (fail)
          go_wp2_with fail
          go_roundw
          case rel => exact ⟨3, 2, by omega, rfl, by go_num, hide (by rw [unhide HN]; rfl), (unhide HB).drewN _, (unhide HS).drewN _, (unhide HL).trans (bel0d' _)⟩
          case measure => simp [intOf]
      · by_cases hz : b2 = 0
        · have HN := hide (mostTo_no (k := 2) (b0 := b0) (b1 := b1) (b2 := b2) (s0 := s0) (s1 := s1) (s2 := s2) (by rw [unhide HM]; simp [moreB, of3, hz]))
          have hz' : (b2 == 0) = true := by simpa using hz
          clear hz
          go_wp2_with fail
          go_roundw
          case rel => exact ⟨3, 0, by omega, rfl, by go_num, hide (by rw [unhide HN, unhide HM]), unhide HB, unhide HS, unhide HL⟩
          case measure => simp [intOf]
        · by_cases hc : s0 * b2 < s2 * b0
          · have HN := hide (mostTo_yes (k := 2) (b0 := b0) (b1 := b1) (b2 := b2) (s0 := s0) (s1 := s1) (s2 := s2) (by rw [unhide HM]; simp [moreB, of3, hz, hc]))
            go_wp2_with fail
            go_quiet (fail)
            go_wp2_with fail
            go_roundw
            case rel => exact ⟨3, 2, by omega, rfl, by go_num, hide (by rw [unhide HN]; rfl), (unhide HB).drewN _, (unhide HS).drewN _, (unhide HL).trans (bel0d' _)⟩
            case measure => simp [intOf]
          · have HN := hide (mostTo_no (k := 2) (b0 := b0) (b1 := b1) (b2 := b2) (s0 := s0) (s1 := s1) (s2 := s2) (by rw [unhide HM]; simp [moreB, of3]; intro _; omega))
            go_wp2_with fail
            go_quiet (fail)
            go_wp2_with fail
            go_roundw
            case rel => exact ⟨3, 0, by omega, rfl, by go_num, hide (by rw [unhide HN, unhide HM]), (unhide HB).drewN _, (unhide HS).drewN _, (unhide HL).trans (bel0d' _)⟩
            case measure => simp [intOf]
      · by_cases hz : b2 = 0
        · have HN := hide (mostTo_no (k := 2) (b0 := b0) (b1 := b1) (b2 := b2) (s0 := s0) (s1 := s1) (s2 := s2) (by rw [unhide HM]; simp [moreB, of3, hz]))
          have hz' : (b2 == 0) = true := by simpa using hz
          clear hz
          go_wp2_with fail
          go_roundw
          case rel => exact ⟨3, 1, by omega, rfl, by go_num, hide (by rw [unhide HN, unhide HM]), unhide HB, unhide HS, unhide HL⟩
          case measure => simp [intOf]
        · by_cases hc : s1 * b2 < s2 * b1
          · have HN := hide (mostTo_yes (k := 2) (b0 := b0) (b1 := b1) (b2 := b2) (s0 := s0) (s1 := s1) (s2 := s2) (by rw [unhide HM]; simp [moreB, of3, hz, hc]))
            go_wp2_with fail
            go_quiet (fail)
            go_wp2_with fail
            go_roundw
            case rel => exact ⟨3, 2, by omega, rfl, by go_num, hide (by rw [unhide HN]; rfl), (unhide HB).drewN _, (unhide HS).drewN _, (unhide HL).trans (bel0d' _)⟩
            case measure => simp [intOf]
          · have HN := hide (mostTo_no (k := 2) (b0 := b0) (b1 := b1) (b2 := b2) (s0 := s0) (s1 := s1) (s2 := s2) (by rw [unhide HM]; simp [moreB, of3]; intro _; omega))
            go_wp2_with fail
            go_quiet (fail)
            go_wp2_with fail
            go_roundw
            case rel => exact ⟨3, 1, by omega, rfl, by go_num, hide (by rw [unhide HN, unhide HM]), (unhide HB).drewN _, (unhide HS).drewN _, (unhide HL).trans (bel0d' _)⟩
            case measure => simp [intOf]
    · have HE : Hid (leftM b0 b1 b2 s0 s1 s2 = M) := hide (unhide HM)
      go_wp2_with fail
      go_ret
      exact ⟨ret_int (unhide HE).symm, unhide HL⟩

end Go.Proofs.Ytnpohiceefkhdao
