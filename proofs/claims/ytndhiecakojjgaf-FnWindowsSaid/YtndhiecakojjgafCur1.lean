/-
  The model's new cursor, and the law's at and big: at every list of bytes.
  The law's at tells one number in every world in which the bytes are as they were. At every list of at most 1048576 bytes.
  The law's at tells, at each place, one number in every world in which the bytes are as they were: as a function of the place. At every list of at most 1048576 bytes.
-/
import Derived.Test.YtndhiecakojjgafCur

namespace Go.Proofs.Ytndhiecakojjgaf
open Go.RowKit

set_option maxHeartbeats 1000000 in
theorem l1New_any (a : Option Addr) (len cap : Nat) (w : World) (hb : Bytes w a len) :
    Calls Try.prog 31 #[.slice a len cap] w fun e w' => e = .returned (.pointer (some ⟨w.heap.size, 0, none⟩)) ∧ Cur w' w.heap.size a len cap ∧ Below w.heap.size w w' := by
  have hsm := hb.small
  have HB := hide hb
  clear hb
  go_enter Try.func31, Try.ntmps31
  go_wp2_with fail
  go_loopw [3, 4] (fun hh i wr => ∃ (k : Nat) (v : Int), k ≤ len ∧ i = .int .i64 k ∧ hh = .int .i64 v ∧ wr = w) (fun _ i _ => len - (intOf i).toNat)
  case atStart => exact ⟨0, _, Nat.zero_le _, rfl, rfl, rfl⟩
  case round =>
    obtain ⟨k, v, hk, rfl, rfl, hwr⟩ := hrel
    subst wr
    by_cases hlt : k < len
    · have hi1 : (k : Int) < (len : Int) := by omega
      by_cases hlt2 : k < 4000
      · have hi2 : (k : Int) < 4000 := by omega
        obtain ⟨b, off, rfl, x, hc, hx1, hx2⟩ := (unhide HB).cells k hlt
        go_wp2
        go_roundw
        case rel => exact ⟨k + 1, _, by omega, by go_num, rfl, by first | rfl | trivial⟩
        case measure => simp [intOf]; omega
      · have hi2 : ¬ (k : Int) < 4000 := by omega
        go_wp2
        go_ret
        exact ⟨rfl, ⟨by simp [go_sem], ⟨0, by omega, by simp [go_sem]⟩, ⟨v, by simp [go_sem]⟩, by simp [go_sem], by simp [go_sem], by simp⟩, bel1 _⟩
    · have hi1 : ¬ (k : Int) < (len : Int) := by omega
      go_wp2
      go_ret
      exact ⟨rfl, ⟨by simp [go_sem], ⟨0, by omega, by simp [go_sem]⟩, ⟨v, by simp [go_sem]⟩, by simp [go_sem], by simp [go_sem], by simp⟩, bel1 _⟩

set_option maxHeartbeats 400000 in
theorem at_any (a : Option Addr) (len cap : Nat) (i : Nat) (w : World) (hb : Bytes w a len) (hl : len ≤ 1048576) (hi : i ≤ 1000) :
    Calls Try.prog 17 #[.slice a len cap, .int .i64 i] w fun e w' => ∃ x : Int, e = .returned (.int .i64 x) ∧ (0 ≤ x ∧ x ≤ 255) ∧ w' = w := by
  by_cases hlt : i < len
  · have hi1 : (i : Int) < (len : Int) := by omega
    have hi0 : (0 : Int) ≤ (i : Int) := by omega
    obtain ⟨b, off, rfl, x, hc, hx1, hx2⟩ := hb.cells i hlt
    clear hb
    go_enter Try.func17, Try.ntmps17
    go_wp2
    go_ret
    exact ⟨x, rfl, ⟨hx1, hx2⟩, rfl⟩
  · have hi1 : ¬ (i : Int) < (len : Int) := by omega
    clear hb
    go_enter Try.func17, Try.ntmps17
    go_wp2
    go_ret
    exact ⟨_, rfl, ⟨Int.emod_nonneg _ (by omega), by have := Int.emod_lt_of_pos ((i : Int) * 7 + len) (show (0 : Int) < 256 by omega); omega⟩, rfl⟩

set_option maxHeartbeats 400000 in
theorem big_any (a : Option Addr) (len cap : Nat) (w : World) :
    Calls Try.prog 8 #[.slice a len cap] w fun e w' => e = .returned (.bool (decide ((1048576 : Int) < len))) ∧ w' = w := by
  by_cases h : (1048576 : Int) < len
  · go_enter Try.func8, Try.ntmps8
    go_wp2
    go_ret
    exact ⟨ret_bool (by simp; omega), rfl⟩
  · go_enter Try.func8, Try.ntmps8
    go_wp2
    go_ret
    exact ⟨ret_bool (by simp; omega), rfl⟩

end Go.Proofs.Ytndhiecakojjgaf

namespace Go.Proofs.Ytndhiecakojjgaf
open Go.RowKit

/-- The byte that the law's at tells is one number in every world in which the bytes are as they were. -/
theorem at_fix (a : Option Addr) (len cap : Nat) (i : Nat) (w : World) (hb : Bytes w a len) (hl : len ≤ 1048576) (hi : i ≤ 1000) :
    ∃ x : Int, (0 ≤ x ∧ x ≤ 255) ∧ ∀ W : World, Below w.heap.size w W → Calls Try.prog 17 #[.slice a len cap, .int .i64 i] W fun e w' => e = .returned (.int .i64 x) ∧ w' = W := by
  by_cases hlt : i < len
  · have hi1 : (i : Int) < (len : Int) := by omega
    have hi0 : (0 : Int) ≤ (i : Int) := by omega
    obtain ⟨b, off, rfl, x, hc, hx1, hx2⟩ := hb.cells i hlt
    refine ⟨x, ⟨hx1, hx2⟩, fun W hW => ?_⟩
    have hc := (hW.cell (block_lt_of_cell hc)).trans hc
    clear hb hW
    go_enter Try.func17, Try.ntmps17
    go_wp2
    go_ret
    exact ⟨rfl, rfl⟩
  · have hi1 : ¬ (i : Int) < (len : Int) := by omega
    refine ⟨((i : Int) * 7 + len) % 256, ⟨Int.emod_nonneg _ (by omega), by have := Int.emod_lt_of_pos ((i : Int) * 7 + len) (show (0 : Int) < 256 by omega); omega⟩, fun W _ => ?_⟩
    clear hb
    go_enter Try.func17, Try.ntmps17
    go_wp2
    go_ret
    exact ⟨rfl, rfl⟩

end Go.Proofs.Ytndhiecakojjgaf

namespace Go.Proofs.Ytndhiecakojjgaf
open Go.RowKit

theorem at_fun (a : Option Addr) (len cap : Nat) (w : World) (hb : Bytes w a len) (hl : len ≤ 1048576) :
    ∃ f : Nat → Int, (∀ i, 0 ≤ f i ∧ f i ≤ 255) ∧ ∀ (i : Nat) (I : Int), I = (i : Int) → i ≤ 1000 → ∀ W : World, Below w.heap.size w W → Calls Try.prog 17 #[.slice a len cap, .int .i64 I] W fun e w' => e = .returned (.int .i64 (f i)) ∧ w' = W := by
  classical
  refine ⟨fun i => if h : i ≤ 1000 then Classical.choose (at_fix a len cap i w hb hl h) else 0, fun i => ?_, fun i I hI hi W hW => ?_⟩
  · by_cases h : i ≤ 1000
    · simp only [h, dif_pos]
      exact (Classical.choose_spec (at_fix a len cap i w hb hl h)).1
    · simp only [h, dif_neg, not_false_eq_true]; omega
  · subst hI
    simp only [hi, dif_pos]
    exact (Classical.choose_spec (at_fix a len cap i w hb hl hi)).2 W hW

end Go.Proofs.Ytndhiecakojjgaf
