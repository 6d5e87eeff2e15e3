/-
  The law's at tells, at each place, one number in every world in which the bytes are as they were: as a function of the place. At every list of at most 1048576 bytes.
-/
import Derived.Test.YtfnnfldfnjnlfagAtFix
namespace Go.Proofs.Ytfnnfldfnjnlfag
open Go.RowKit

theorem at_fun (a : Option Addr) (len cap : Nat) (w : World) (hb : Bytes w a len) (hl : len ≤ 1048576) :
    ∃ f : Nat → Int, (∀ i, 0 ≤ f i ∧ f i ≤ 255) ∧ ∀ (i : Nat) (I : Int), I = (i : Int) → i ≤ 1000 → ∀ W : World, Below w.heap.size w W → Calls Try.prog 25 #[.slice a len cap, .int .i64 I] W fun e w' => e = .returned (.int .i64 (f i)) ∧ w' = W := by
  classical
  refine ⟨fun i => if h : i ≤ 1000 then Classical.choose (at_fix a len cap i w hb hl h) else 0, fun i => ?_, fun i I hI hi W hW => ?_⟩
  · by_cases h : i ≤ 1000
    · simp only [h, dif_pos]
      exact (Classical.choose_spec (at_fix a len cap i w hb hl h)).1
    · simp only [h, dif_neg, not_false_eq_true]; omega
  · subst hI
    simp only [hi, dif_pos]
    exact (Classical.choose_spec (at_fix a len cap i w hb hl hi)).2 W hW

end Go.Proofs.Ytfnnfldfnjnlfag
