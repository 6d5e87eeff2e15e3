/-
  The law's comparison of two floats by their bits: of one value it says so. No condition.
  '+' of complex numbers, whatever they are, in whatever world. No condition.
-/
import Derived.Test.YtomcbbpaajpeiaaChecked
import Derived.Test.YtomcbbpaajpeiaaFlWalk

namespace Go.Proofs.Ytomcbbpaajpeiaa
open Go.RowKit

set_option maxHeartbeats 1000000 in
theorem sameBits_any (a b : Nat) (w : World) (h : Alike .f64 a b) :
    Calls Try.prog 11 #[.float .f64 a, .float .f64 b] w fun e w' => e = .returned (.bool true) ∧ w' = w := by
  by_cases hn : nanB .f64 a = true
  · have n0 : (FloatKind.f64.format.order a b == some .eq) = false := by rw [order_nan (.inl hn)]; rfl
    have n1 : (FloatKind.f64.format.order a a != some .eq) = true := by rw [order_self_ne]; exact hn
    have n2 : (FloatKind.f64.format.order b b != some .eq) = true := by rw [order_self_ne, ← h.nan]; exact hn
    clear h hn
    go_enter Try.func11, Try.ntmps11
    go_wp2
    go_ret
    exact ⟨rfl, rfl⟩
  · have hab : a = b := by
      rcases h with h | ⟨h, _⟩
      · exact h
      · exact absurd h hn
    subst hab
    have hf : nanB .f64 a = false := by simpa using hn
    have n2 : (FloatKind.f64.format.order a a == some .eq) = true := by rw [order_self_eq, hf]; rfl
    clear h hn
    go_enter Try.func11, Try.ntmps11
    go_wp2
    go_ret
    exact ⟨rfl, rfl⟩

end Go.Proofs.Ytomcbbpaajpeiaa

namespace Go.Proofs.Ytomcbbpaajpeiaa
open Go Go.RowKit

theorem run_cadd_all {P : Program} (t : TypeId) : ∃ (F G N : Nat → Nat → Nat → Nat → World → Nat), (∀ a b c d w, (binOp .add t (.complex .f64 a b) (.complex .f64 c d)).run P w = .ok (.complex .f64 (F a b c d w) (G a b c d w)) (w.drewN (N a b c d w))) ∧ (∀ a b c d w, Alike .f64 (F a b c d w) (fl .add .f64 a c)) ∧ (∀ a b c d w, Alike .f64 (G a b c d w) (fl .add .f64 b d)) := by
  have h := fun a b c d => run_cadd (P := P) t a b c d
  refine ⟨fun a b c d => (h a b c d).choose, fun a b c d => (h a b c d).choose_spec.choose, fun a b c d => (h a b c d).choose_spec.choose_spec.choose, fun a b c d => (h a b c d).choose_spec.choose_spec.choose_spec.1, fun a b c d => (h a b c d).choose_spec.choose_spec.choose_spec.2.1, fun a b c d => (h a b c d).choose_spec.choose_spec.choose_spec.2.2⟩
theorem run_cless_all {P : Program} (t : TypeId) : ∃ (F G N : Nat → Nat → Nat → Nat → World → Nat), (∀ a b c d w, (binOp .sub t (.complex .f64 a b) (.complex .f64 c d)).run P w = .ok (.complex .f64 (F a b c d w) (G a b c d w)) (w.drewN (N a b c d w))) ∧ (∀ a b c d w, Alike .f64 (F a b c d w) (fl .sub .f64 a c)) ∧ (∀ a b c d w, Alike .f64 (G a b c d w) (fl .sub .f64 b d)) := by
  have h := fun a b c d => run_cless (P := P) t a b c d
  refine ⟨fun a b c d => (h a b c d).choose, fun a b c d => (h a b c d).choose_spec.choose, fun a b c d => (h a b c d).choose_spec.choose_spec.choose, fun a b c d => (h a b c d).choose_spec.choose_spec.choose_spec.1, fun a b c d => (h a b c d).choose_spec.choose_spec.choose_spec.2.1, fun a b c d => (h a b c d).choose_spec.choose_spec.choose_spec.2.2⟩

end Go.Proofs.Ytomcbbpaajpeiaa
