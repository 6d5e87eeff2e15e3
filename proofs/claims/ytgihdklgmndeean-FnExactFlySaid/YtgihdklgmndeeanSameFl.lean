/-
  The law's comparison of two floats: of one value it says so. No condition.
-/
import Derived.Test.YtgihdklgmndeeanChecked
import Derived.Test.YtgihdklgmndeeanFlWalk
namespace Go.Proofs.Ytgihdklgmndeean
open Go.RowKit

/-- 1 in the great size. -/
def one64 : Nat := 4607182418800017408

set_option maxHeartbeats 1000000 in
theorem sameFloat_alike (a b : Nat) (w : World) (h : Alike .f64 a b) :
    Calls Try.prog 21 #[.float .f64 a, .float .f64 b] w fun e w' => e = .returned (.bool true) ∧ ∃ n, w' = w.drewN n := by
  by_cases hn : nanB .f64 a = true
  · have n1 : (FloatKind.f64.format.order a a != some .eq) = true := by rw [order_self_ne]; exact hn
    have n2 : (FloatKind.f64.format.order b b != some .eq) = true := by rw [order_self_ne, ← h.nan]; exact hn
    clear h
    go_enter Try.func21, Try.ntmps21
    go_wp2
    go_ret
    exact ⟨rfl, 0, rfl⟩
  · have hab : a = b := by
      rcases h with h | ⟨h, _⟩
      · exact h
      · exact absurd h hn
    subst hab
    have hf : nanB .f64 a = false := by simpa using hn
    have n1 : (FloatKind.f64.format.order a a != some .eq) = false := by rw [order_self_ne]; exact hf
    have n2 : (FloatKind.f64.format.order a a == some .eq) = true := by rw [order_self_eq, hf]; rfl
    clear h hn
    by_cases hz : (FloatKind.f64.format.order a 0 == some .eq) = true
    · go_enter Try.func21, Try.ntmps21
      go_wp2_with (with_reducible show wpList _ _ _ (⟨_, .binOp _ _ _ _ _, _, _, _, none⟩ :: _) _ _; refine at_flop (by decide) .f64 _ _ rfl rfl ?_; intro z1 n1 h1)
      rename_i z0 n0 h0
      have e0 : FloatKind.f64.format.order z0 0 = FloatKind.f64.format.order z1 0 := (h0.trans h1.symm).order (.refl _ _)
      go_ret
      exact ⟨by rw [e0]; simp, _, rfl⟩
    · have hz : (FloatKind.f64.format.order a 0 == some .eq) = false := by simpa using hz
      go_enter Try.func21, Try.ntmps21
      go_wp2
      go_ret
      exact ⟨rfl, 0, rfl⟩

end Go.Proofs.Ytgihdklgmndeean
