/-
  The model's new cursor, and the law's at and big: at every list of bytes.
-/
import Derived.Test.YtomcbbpaajpeiaaCur
namespace Go.Proofs.Ytomcbbpaajpeiaa
open Go.RowKit

set_option maxHeartbeats 1000000 in
theorem l1New_any (a : Option Addr) (len cap : Nat) (w : World) (hb : Bytes w a len) :
    Calls Try.prog 17 #[.slice a len cap] w fun e w' => e = .returned (.pointer (some ⟨w.heap.size, 0, none⟩)) ∧ Cur w' w.heap.size a len cap ∧ Below w.heap.size w w' := by
  have hsm := hb.small
  have HB := hide hb
  clear hb
  go_enter Try.func17, Try.ntmps17
  go_wp2_with fail
  go_loopw [3, 4] (fun hh i wr => ∃ (k : Nat) (v : Int), k ≤ len ∧ i = .int .i64 k ∧ hh = .int .i64 v ∧ wr = w) (fun _ i _ => len - (intOf i).toNat)
  case atStart => exact ⟨0, _, Nat.zero_le _, rfl, rfl, rfl⟩
  case round =>
    obtain ⟨k, v, hk, rfl, rfl, hwr⟩ := hrel
    subst wr
    by_cases hlt : k < len
    · have hi1 : (k : Int) < (len : Int) := by omega
      by_cases hlt2 : k < 4000
      · have hi2 : (k : Int) < 4000 := by omega
        obtain ⟨b, off, rfl, x, hc, hx1, hx2⟩ := (unhide HB).cells k hlt
        go_wp2
        go_roundw
        case rel => exact ⟨k + 1, _, by omega, by go_num, rfl, by first | rfl | trivial⟩
        case measure => simp [intOf]; omega
      · have hi2 : ¬ (k : Int) < 4000 := by omega
        go_wp2
        go_ret
        exact ⟨rfl, ⟨by simp [go_sem], ⟨0, by omega, by simp [go_sem]⟩, ⟨v, by simp [go_sem]⟩, by simp [go_sem], by simp [go_sem], by simp⟩, bel1 _⟩
    · have hi1 : ¬ (k : Int) < (len : Int) := by omega
      go_wp2
      go_ret
      exact ⟨rfl, ⟨by simp [go_sem], ⟨0, by omega, by simp [go_sem]⟩, ⟨v, by simp [go_sem]⟩, by simp [go_sem], by simp [go_sem], by simp⟩, bel1 _⟩

set_option maxHeartbeats 400000 in
theorem big_any (a : Option Addr) (len cap : Nat) (w : World) :
    Calls Try.prog 4 #[.slice a len cap] w fun e w' => e = .returned (.bool (decide ((1048576 : Int) < len))) ∧ w' = w := by
  by_cases h : (1048576 : Int) < len
  · go_enter Try.func4, Try.ntmps4
    go_wp2
    go_ret
    exact ⟨ret_bool (by simp; omega), rfl⟩
  · go_enter Try.func4, Try.ntmps4
    go_wp2
    go_ret
    exact ⟨ret_bool (by simp; omega), rfl⟩

end Go.Proofs.Ytomcbbpaajpeiaa
