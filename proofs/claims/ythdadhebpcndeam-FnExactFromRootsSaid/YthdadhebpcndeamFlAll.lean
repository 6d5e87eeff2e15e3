/-
  '+' of complex numbers, whatever they are, in whatever world. No condition.
-/
import Derived.Test.YthdadhebpcndeamFlWalk
namespace Go.Proofs.Ythdadhebpcndeam
open Go Go.RowKit

theorem run_cadd_all {P : Program} (t : TypeId) : ∃ (F G N : Nat → Nat → Nat → Nat → World → Nat), (∀ a b c d w, (binOp .add t (.complex .f64 a b) (.complex .f64 c d)).run P w = .ok (.complex .f64 (F a b c d w) (G a b c d w)) (w.drewN (N a b c d w))) ∧ (∀ a b c d w, Alike .f64 (F a b c d w) (fl .add .f64 a c)) ∧ (∀ a b c d w, Alike .f64 (G a b c d w) (fl .add .f64 b d)) := by
  have h := fun a b c d => run_cadd (P := P) t a b c d
  refine ⟨fun a b c d => (h a b c d).choose, fun a b c d => (h a b c d).choose_spec.choose, fun a b c d => (h a b c d).choose_spec.choose_spec.choose, fun a b c d => (h a b c d).choose_spec.choose_spec.choose_spec.1, fun a b c d => (h a b c d).choose_spec.choose_spec.choose_spec.2.1, fun a b c d => (h a b c d).choose_spec.choose_spec.choose_spec.2.2⟩
theorem run_cless_all {P : Program} (t : TypeId) : ∃ (F G N : Nat → Nat → Nat → Nat → World → Nat), (∀ a b c d w, (binOp .sub t (.complex .f64 a b) (.complex .f64 c d)).run P w = .ok (.complex .f64 (F a b c d w) (G a b c d w)) (w.drewN (N a b c d w))) ∧ (∀ a b c d w, Alike .f64 (F a b c d w) (fl .sub .f64 a c)) ∧ (∀ a b c d w, Alike .f64 (G a b c d w) (fl .sub .f64 b d)) := by
  have h := fun a b c d => run_cless (P := P) t a b c d
  refine ⟨fun a b c d => (h a b c d).choose, fun a b c d => (h a b c d).choose_spec.choose, fun a b c d => (h a b c d).choose_spec.choose_spec.choose, fun a b c d => (h a b c d).choose_spec.choose_spec.choose_spec.1, fun a b c d => (h a b c d).choose_spec.choose_spec.choose_spec.2.1, fun a b c d => (h a b c d).choose_spec.choose_spec.choose_spec.2.2⟩

end Go.Proofs.Ythdadhebpcndeam
