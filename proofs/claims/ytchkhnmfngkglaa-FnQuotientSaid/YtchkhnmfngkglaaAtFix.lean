/-
  The law's at tells one number in every world in which the bytes are as they were. At every list of at most 1048576 bytes.
-/
import Derived.Test.YtchkhnmfngkglaaCurNew
namespace Go.Proofs.Ytchkhnmfngkglaa
open Go.RowKit

/-- The byte that the law's at tells is one number in every world in which the bytes are as they were. -/
theorem at_fix (a : Option Addr) (len cap : Nat) (i : Nat) (w : World) (hb : Bytes w a len) (hl : len ≤ 1048576) (hi : i ≤ 1000) :
    ∃ x : Int, (0 ≤ x ∧ x ≤ 255) ∧ ∀ W : World, Below w.heap.size w W → Calls Try.prog 17 #[.slice a len cap, .int .i64 i] W fun e w' => e = .returned (.int .i64 x) ∧ w' = W := by
  by_cases hlt : i < len
  · have hi1 : (i : Int) < (len : Int) := by omega
    have hi0 : (0 : Int) ≤ (i : Int) := by omega
    obtain ⟨b, off, rfl, x, hc, hx1, hx2⟩ := hb.cells i hlt
    refine ⟨x, ⟨hx1, hx2⟩, fun W hW => ?_⟩
    have hc := (hW.cell (block_lt_of_cell hc)).trans hc
    clear hb hW
    go_enter Try.func17, Try.ntmps17
    go_wp2
    go_ret
    exact ⟨rfl, rfl⟩
  · have hi1 : ¬ (i : Int) < (len : Int) := by omega
    refine ⟨((i : Int) * 7 + len) % 256, ⟨Int.emod_nonneg _ (by omega), by have := Int.emod_lt_of_pos ((i : Int) * 7 + len) (show (0 : Int) < 256 by omega); omega⟩, fun W _ => ?_⟩
    clear hb
    go_enter Try.func17, Try.ntmps17
    go_wp2
    go_ret
    exact ⟨rfl, rfl⟩

end Go.Proofs.Ytchkhnmfngkglaa
