/-
  The law's comparison of two floats by their bits: of one value it says so. No condition.
-/
import Derived.Test.YtdamnfiaciacmaaChecked
import Derived.Test.YtdamnfiaciacmaaFlWalk
namespace Go.Proofs.Ytdamnfiaciacmaa
open Go.RowKit

set_option maxHeartbeats 1000000 in
theorem sameBits_any (a b : Nat) (w : World) (h : Alike .f64 a b) :
    Calls Try.prog 8 #[.float .f64 a, .float .f64 b] w fun e w' => e = .returned (.bool true) ∧ w' = w := by
  by_cases hn : nanB .f64 a = true
  · have n0 : (FloatKind.f64.format.order a b == some .eq) = false := by rw [order_nan (.inl hn)]; rfl
    have n1 : (FloatKind.f64.format.order a a != some .eq) = true := by rw [order_self_ne]; exact hn
    have n2 : (FloatKind.f64.format.order b b != some .eq) = true := by rw [order_self_ne, ← h.nan]; exact hn
    clear h hn
    go_enter Try.func8, Try.ntmps8
    go_wp2
    go_ret
    exact ⟨rfl, rfl⟩
  · have hab : a = b := by
      rcases h with h | ⟨h, _⟩
      · exact h
      · exact absurd h hn
    subst hab
    have hf : nanB .f64 a = false := by simpa using hn
    have n2 : (FloatKind.f64.format.order a a == some .eq) = true := by rw [order_self_eq, hf]; rfl
    clear h hn
    go_enter Try.func8, Try.ntmps8
    go_wp2
    go_ret
    exact ⟨rfl, rfl⟩

end Go.Proofs.Ytdamnfiaciacmaa
