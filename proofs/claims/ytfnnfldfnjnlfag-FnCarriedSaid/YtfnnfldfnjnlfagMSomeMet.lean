/-
  What the program's someMet answers: whether some bound is met. Nothing that was there is written.
  The law's at tells one number in every world in which the bytes are as they were. At every list of at most 1048576 bytes.
-/
import Derived.Test.YtfnnfldfnjnlfagLeftImpl
import Derived.Test.YtfnnfldfnjnlfagMCkSpec
import Derived.Test.YtfnnfldfnjnlfagCurNew

namespace Go.Proofs.Ytfnnfldfnjnlfag
open Go.RowKit
attribute [local go_sem high] run_ix0 run_ix1 run_ix2

set_option maxRecDepth 20000 in
set_option maxHeartbeats 4000000 in
theorem someMet_any (b0 b1 b2 s0 s1 s2 : Int) (w : World) :
    Calls Try.prog 56 #[.agg #[.int .i64 b0, .int .i64 b1, .int .i64 b2], .agg #[.int .i64 s0, .int .i64 s1, .int .i64 s2]] w fun x w' => x = .returned (.bool (metB b0 b1 b2 s0 s1 s2)) ∧ Below w.heap.size w w' := by
  have R0 := hide ((Blk.new (w := w) [.int .i64 b0, .int .i64 b1, .int .i64 b2] 86).alloc (Obj.cells #[.int .i64 s0, .int .i64 s1, .int .i64 s2] 86))
  have R1 : Hid (Blk ((w.alloc (Obj.cells #[.int .i64 b0, .int .i64 b1, .int .i64 b2] 86)).alloc (Obj.cells #[.int .i64 s0, .int .i64 s1, .int .i64 s2] 86)) (w.heap.size + 1) [.int .i64 s0, .int .i64 s1, .int .i64 s2]) := hide (by
    have := Blk.new (w := w.alloc (Obj.cells #[.int .i64 b0, .int .i64 b1, .int .i64 b2] 86)) [.int .i64 s0, .int .i64 s1, .int .i64 s2] 86
    simpa using this)
  have B0 := hide (bel2 (w := w) (Obj.cells #[.int .i64 b0, .int .i64 b1, .int .i64 b2] 86) (Obj.cells #[.int .i64 s0, .int .i64 s1, .int .i64 s2] 86))
  go_enter Try.func56, Try.ntmps56
  go_wp2_with fail
  go_loopw [8] (fun iv wr => ∃ (k : Nat), k ≤ 3 ∧ iv = .int .i64 k ∧ Hid (∀ j, j < k → metAt b0 b1 b2 s0 s1 s2 j = false) ∧ Blk wr w.heap.size [.int .i64 b0, .int .i64 b1, .int .i64 b2] ∧ Blk wr (w.heap.size + 1) [.int .i64 s0, .int .i64 s1, .int .i64 s2] ∧ Below w.heap.size w wr) (fun i _ => 3 - (intOf i).toNat)
  case atStart => exact ⟨0, by omega, rfl, hide (fun j hj => by omega), unhide R0, unhide R1, unhide B0⟩
  case round =>
    clear R0 R1 B0
    obtain ⟨k, hk, rfl, HN, hB, hS, hbel⟩ := hrel
    have c0 : wr.cell? ⟨w.heap.size, 0, none⟩ = some (.int .i64 b0) := hB.c 0 (by simp)
    have c1 : wr.cell? ⟨w.heap.size, 1, none⟩ = some (.int .i64 b1) := hB.c 1 (by simp)
    have c2 : wr.cell? ⟨w.heap.size, 2, none⟩ = some (.int .i64 b2) := hB.c 2 (by simp)
    have e0 : wr.cell? ⟨w.heap.size + 1, 0, none⟩ = some (.int .i64 s0) := hS.c 0 (by simp)
    have e1 : wr.cell? ⟨w.heap.size + 1, 1, none⟩ = some (.int .i64 s1) := hS.c 1 (by simp)
    have e2 : wr.cell? ⟨w.heap.size + 1, 2, none⟩ = some (.int .i64 s2) := hS.c 2 (by simp)
    have HB := hide hB
    have HS := hide hS
    have HL := hide hbel
    clear hB hS hbel
    rcases (show k = 0 ∨ k = 1 ∨ k = 2 ∨ k = 3 from by omega) with rfl | rfl | rfl | rfl
    · by_cases hz : b0 = 0
      · have HA : Hid (metAt b0 b1 b2 s0 s1 s2 0 = false) := hide (by simp [metAt, of3, hz])
        have HN1 : Hid (∀ j, j < 1 → metAt b0 b1 b2 s0 s1 s2 j = false) := hide (fun j hj => by
          rcases (show j < 0 ∨ j = 0 from by omega) with h | h
          · exact unhide HN j h
          · subst h; exact unhide HA)
        have hz' : (b0 != 0) = false := by simpa using hz
        clear hz
        go_wp2_with fail
        go_roundw
        case rel => exact ⟨1, by omega, by go_num, HN1, unhide HB, unhide HS, unhide HL⟩
        case measure => simp [intOf]
      · have hz' : (b0 != 0) = true := by simpa using hz
        by_cases hc : b0 ≤ s0
        · have HE := hide (metB_yes (b0 := b0) (b1 := b1) (b2 := b2) (s0 := s0) (s1 := s1) (s2 := s2) (k := 0) (by omega) (by simp [metAt, of3, hz, hc]))
          go_wp2_with fail
          go_ret
          exact ⟨ret_bool (unhide HE).symm, unhide HL⟩
        · have HA : Hid (metAt b0 b1 b2 s0 s1 s2 0 = false) := hide (by simp [metAt, of3]; omega)
          have HN1 : Hid (∀ j, j < 1 → metAt b0 b1 b2 s0 s1 s2 j = false) := hide (fun j hj => by
            rcases (show j < 0 ∨ j = 0 from by omega) with h | h
            · exact unhide HN j h
            · subst h; exact unhide HA)
          go_wp2_with fail
          go_roundw
          case rel => exact ⟨1, by omega, by go_num, HN1, unhide HB, unhide HS, unhide HL⟩
          case measure => simp [intOf]
    · by_cases hz : b1 = 0
      · have HA : Hid (metAt b0 b1 b2 s0 s1 s2 1 = false) := hide (by simp [metAt, of3, hz])
        have HN1 : Hid (∀ j, j < 2 → metAt b0 b1 b2 s0 s1 s2 j = false) := hide (fun j hj => by
          rcases (show j < 1 ∨ j = 1 from by omega) with h | h
          · exact unhide HN j h
          · subst h; exact unhide HA)
        have hz' : (b1 != 0) = false := by simpa using hz
        clear hz
        go_wp2_with fail
        go_roundw
        case rel => exact ⟨2, by omega, by go_num, HN1, unhide HB, unhide HS, unhide HL⟩
        case measure => simp [intOf]
      · have hz' : (b1 != 0) = true := by simpa using hz
        by_cases hc : b1 ≤ s1
        · have HE := hide (metB_yes (b0 := b0) (b1 := b1) (b2 := b2) (s0 := s0) (s1 := s1) (s2 := s2) (k := 1) (by omega) (by simp [metAt, of3, hz, hc]))
          go_wp2_with fail
          go_ret
          exact ⟨ret_bool (unhide HE).symm, unhide HL⟩
        · have HA : Hid (metAt b0 b1 b2 s0 s1 s2 1 = false) := hide (by simp [metAt, of3]; omega)
          have HN1 : Hid (∀ j, j < 2 → metAt b0 b1 b2 s0 s1 s2 j = false) := hide (fun j hj => by
            rcases (show j < 1 ∨ j = 1 from by omega) with h | h
            · exact unhide HN j h
            · subst h; exact unhide HA)
          go_wp2_with fail
          go_roundw
          case rel => exact ⟨2, by omega, by go_num, HN1, unhide HB, unhide HS, unhide HL⟩
          case measure => simp [intOf]
    · by_cases hz : b2 = 0
      · have HA : Hid (metAt b0 b1 b2 s0 s1 s2 2 = false) := hide (by simp [metAt, of3, hz])
        have HN1 : Hid (∀ j, j < 3 → metAt b0 b1 b2 s0 s1 s2 j = false) := hide (fun j hj => by
          rcases (show j < 2 ∨ j = 2 from by omega) with h | h
          · exact unhide HN j h
          · subst h; exact unhide HA)
        have hz' : (b2 != 0) = false := by simpa using hz
        clear hz
        go_wp2_with fail
        go_roundw
        case rel => exact ⟨3, by omega, by go_num, HN1, unhide HB, unhide HS, unhide HL⟩
        case measure => simp [intOf]
      · have hz' : (b2 != 0) = true := by simpa using hz
        by_cases hc : b2 ≤ s2
        · have HE := hide (metB_yes (b0 := b0) (b1 := b1) (b2 := b2) (s0 := s0) (s1 := s1) (s2 := s2) (k := 2) (by omega) (by simp [metAt, of3, hz, hc]))
          go_wp2_with fail
          go_ret
          exact ⟨ret_bool (unhide HE).symm, unhide HL⟩
        · have HA : Hid (metAt b0 b1 b2 s0 s1 s2 2 = false) := hide (by simp [metAt, of3]; omega)
          have HN1 : Hid (∀ j, j < 3 → metAt b0 b1 b2 s0 s1 s2 j = false) := hide (fun j hj => by
            rcases (show j < 2 ∨ j = 2 from by omega) with h | h
            · exact unhide HN j h
            · subst h; exact unhide HA)
          go_wp2_with fail
          go_roundw
          case rel => exact ⟨3, by omega, by go_num, HN1, unhide HB, unhide HS, unhide HL⟩
          case measure => simp [intOf]
    · have HE := hide (metB_no (unhide HN))
      go_wp2_with fail
      go_ret
      exact ⟨ret_bool (unhide HE).symm, unhide HL⟩

end Go.Proofs.Ytfnnfldfnjnlfag

namespace Go.Proofs.Ytfnnfldfnjnlfag
open Go.RowKit

/-- The byte that the law's at tells is one number in every world in which the bytes are as they were. -/
theorem at_fix (a : Option Addr) (len cap : Nat) (i : Nat) (w : World) (hb : Bytes w a len) (hl : len ≤ 1048576) (hi : i ≤ 1000) :
    ∃ x : Int, (0 ≤ x ∧ x ≤ 255) ∧ ∀ W : World, Below w.heap.size w W → Calls Try.prog 25 #[.slice a len cap, .int .i64 i] W fun e w' => e = .returned (.int .i64 x) ∧ w' = W := by
  by_cases hlt : i < len
  · have hi1 : (i : Int) < (len : Int) := by omega
    have hi0 : (0 : Int) ≤ (i : Int) := by omega
    obtain ⟨b, off, rfl, x, hc, hx1, hx2⟩ := hb.cells i hlt
    refine ⟨x, ⟨hx1, hx2⟩, fun W hW => ?_⟩
    have hc := (hW.cell (block_lt_of_cell hc)).trans hc
    clear hb hW
    go_enter Try.func25, Try.ntmps25
    go_wp2
    go_ret
    exact ⟨rfl, rfl⟩
  · have hi1 : ¬ (i : Int) < (len : Int) := by omega
    refine ⟨((i : Int) * 7 + len) % 256, ⟨Int.emod_nonneg _ (by omega), by have := Int.emod_lt_of_pos ((i : Int) * 7 + len) (show (0 : Int) < 256 by omega); omega⟩, fun W _ => ?_⟩
    clear hb
    go_enter Try.func25, Try.ntmps25
    go_wp2
    go_ret
    exact ⟨rfl, rfl⟩

end Go.Proofs.Ytfnnfldfnjnlfag
