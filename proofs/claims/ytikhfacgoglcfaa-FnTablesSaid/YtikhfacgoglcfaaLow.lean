/-
  What the model's l1Low and the program's lowerPlace and scaledBetween answer: the lesser neighbour of a place, and the value there times the width; no memory is written. Lists of 2 to 20 numbers.
-/
import Derived.Test.YtikhfacgoglcfaaLowPure
import Derived.Test.YtikhfacgoglcfaaNear
namespace Go.Proofs.Ytikhfacgoglcfaa
open Go.RowKit

set_option maxHeartbeats 1000000 in
theorem lowerPlace_no (bb off cap : Nat) (zs : List Int) (x : Int) (w : World) (h2 : 2 ≤ zs.length) (h20 : zs.length ≤ 20) (hc : ∀ i, i < zs.length → w.cell? ⟨bb, off + i, none⟩ = some (.int .i64 (nth zs i))) (hno : inB x (nth zs 0) (nth zs (zs.length - 1)) = false) :
    Calls Try.prog 15 #[.slice (some ⟨bb, off, none⟩) zs.length cap, .int .i64 x] w fun e w' => e = .returned (.tuple #[.int .i64 0, .bool false]) ∧ ∃ n, w' = w.drewN n := by
  have g0 := hc 0 (by omega)
  have g1 := hc (zs.length - 1) (by omega)
  simp only [Nat.add_zero] at g0
  have hi0 : (0 : Int) < (zs.length : Int) := by omega
  clear hc
  go_enter Try.func15, Try.ntmps15
  go_wp2
  go_quiet ((go_at_call 28; exact Calls.quiet_of_same (within_any _ _ _ _)))
  go_wp2
  go_ret2
  exact ⟨rfl, _, rfl⟩

set_option maxHeartbeats 1000000 in
theorem lowerPlace_yes (bb off cap : Nat) (zs : List Int) (x : Int) (w : World) (h2 : 2 ≤ zs.length) (h20 : zs.length ≤ 20) (hc : ∀ i, i < zs.length → w.cell? ⟨bb, off + i, none⟩ = some (.int .i64 (nth zs i))) (hyes : inB x (nth zs 0) (nth zs (zs.length - 1)) = true) :
    Calls Try.prog 15 #[.slice (some ⟨bb, off, none⟩) zs.length cap, .int .i64 x] w fun e w' => e = .returned (.tuple #[.int .i64 (lowAt zs x), .bool true]) ∧ ∃ n, w' = w.drewN n := by
  have g0 := hc 0 (by omega)
  have g1 := hc (zs.length - 1) (by omega)
  simp only [Nat.add_zero] at g0
  have hi0 : (0 : Int) < (zs.length : Int) := by omega
  have HC := hide hc
  clear hc
  go_enter Try.func15, Try.ntmps15
  go_wp2
  go_quiet ((go_at_call 28; exact Calls.quiet_of_same (within_any _ _ _ _)))
  go_wp2
  clear g0 g1 hyes
  go_loopw [7] (fun i wr => ∃ k : Nat, k < zs.length ∧ i = .int .i64 k ∧ Hid (∀ j, j < k → beyond zs x j = true) ∧ wr = w.drewN nq) (fun i _ => zs.length - (intOf i).toNat)
  case atStart => exact ⟨0, by omega, rfl, (fun j hj => by omega), rfl⟩
  case round =>
    obtain ⟨k, hk, rfl, hall, hwr⟩ := hrel
    subst wr
    by_cases hlt : k + 2 < zs.length
    · have hcell := (unhide HC) (k + 1) (by omega)
      have hi1 : (k : Int) + 1 < (zs.length : Int) := by omega
      by_cases hx : nth zs (k + 1) ≤ x
      · have HB := hide (beyond_true hlt hx)
        go_wp2
        go_roundw
        case rel => exact ⟨k + 1, by omega, by go_num, (fun j hj => by rcases Nat.lt_succ_iff_lt_or_eq.1 hj with h | h; exact hall.out j h; subst h; exact unhide HB), by first | rfl | trivial⟩
        case measure => simp [intOf]; omega
      · have HE := hide (lowAt_is hk (beyond_less hx) hall.out)
        go_wp2
        go_ret2
        exact ⟨ret_pair1 (by rw [unhide HE]), _, rfl⟩
    · have HE := hide (lowAt_is hk (beyond_end (x := x) hlt) hall.out)
      go_wp2
      go_ret2
      exact ⟨ret_pair1 (by rw [unhide HE]), _, rfl⟩

set_option maxHeartbeats 1000000 in
theorem scaled_any (b1 o1 b2 o2 : Nat) (x0 x1 y0 y1 x B C : Int) (w : World) (h1 : -B ≤ x0 ∧ x0 ≤ B) (h2 : -B ≤ x1 ∧ x1 ≤ B) (h3 : -C ≤ y0 ∧ y0 ≤ C) (h4 : -C ≤ y1 ∧ y1 ≤ C) (h5 : -B ≤ x ∧ x ≤ B) (hB : B ≤ 1000000) (hC : C ≤ 10000000000) (hB0 : 0 ≤ B) (hC0 : 0 ≤ C)
    (hp1 : -20000000000000000 ≤ y0 * (x1 - x0) ∧ y0 * (x1 - x0) ≤ 20000000000000000) (hp2 : -40000000000000000 ≤ (y1 - y0) * (x - x0) ∧ (y1 - y0) * (x - x0) ≤ 40000000000000000)
    (e0 : w.cell? ⟨b1, o1, none⟩ = some (.int .i64 x0)) (e1 : w.cell? ⟨b1, o1 + 1, none⟩ = some (.int .i64 x1)) (f0 : w.cell? ⟨b2, o2, none⟩ = some (.int .i64 y0)) (f1 : w.cell? ⟨b2, o2 + 1, none⟩ = some (.int .i64 y1)) :
    Calls Try.prog 18 #[.slice (some ⟨b1, o1, none⟩) 2 2, .slice (some ⟨b2, o2, none⟩) 2 2, .int .i64 x] w fun e w' => e = .returned (.int .i64 (y0 * (x1 - x0) + (y1 - y0) * (x - x0))) ∧ ∃ n, w' = w.drewN n := by
  go_enter Try.func18, Try.ntmps18
  go_wp2
  go_quiet (fail)
  go_wp2
  go_ret
  exact ⟨rfl, _, rfl⟩

end Go.Proofs.Ytikhfacgoglcfaa
