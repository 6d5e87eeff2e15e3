/-
  What Near5 answers in the specification and in the program: the plain flag. No condition; nothing that was there is written.
-/
import Derived.Test.YtdamnfiaciacmaaToMo
namespace Go.Proofs.Ytdamnfiaciacmaa
open Go.RowKit
theorem run_neg_float {P : Program} {w : World} (k : FloatKind) (x : Nat) : (Op.unary .neg (.float k x)).run P w = .ok (.float k (Op.negFloat k x)) w := rfl
attribute [local go_sem] run_store_float run_neg_float

/-- A difference that is at most far and at least far with its sign turned. -/
def leF (d e : Nat) : Bool := FloatKind.f64.format.order d e == some .lt || FloatKind.f64.format.order d e == some .eq
def geF (d e : Nat) : Bool := FloatKind.f64.format.order d e == some .gt || FloatKind.f64.format.order d e == some .eq
def nearD (d far : Nat) : Bool := leF d far && geF d (Op.negFloat .f64 far)
theorem nearD_alike {d e : Nat} (h : Alike .f64 d e) (far : Nat) : nearD d far = nearD e far := by
  unfold nearD leF geF
  rw [h.order (.refl _ far), h.order (.refl _ (Op.negFloat .f64 far))]
theorem leF_iff (d e : Nat) : leF d e = true ↔ (FloatKind.f64.format.order d e = some .lt ∨ FloatKind.f64.format.order d e = some .eq) := by unfold leF; simp
/-- The four differences. -/
def nearM (a b : Mo) (far : Nat) : Bool := nearD (fl .sub .f64 a.a0 b.a0) far && nearD (fl .sub .f64 a.a1 b.a1) far && nearD (fl .sub .f64 a.a2 b.a2) far && nearD (fl .sub .f64 a.a3 b.a3) far

set_option maxHeartbeats 1000000 in
theorem nearBy_any (d far : Nat) (w : World) :
    Calls Try.prog 20 #[.float .f64 d, .float .f64 far] w fun e w' => e = .returned (.bool (nearD d far)) ∧ w' = w := by
  by_cases h : FloatKind.f64.format.order d far = some .lt ∨ FloatKind.f64.format.order d far = some .eq
  · go_enter Try.func20, Try.ntmps20
    go_wp2
    go_ret
    exact ⟨rfl, rfl⟩
  · have H : Hid (nearD d far = false) := hide (by unfold nearD; rw [Bool.eq_false_iff.2 (fun e => h ((leF_iff _ _).1 e))]; rfl)
    go_enter Try.func20, Try.ntmps20
    go_wp2
    go_ret
    exact ⟨by rw [unhide H]; rfl, rfl⟩

set_option maxRecDepth 20000 in
set_option maxHeartbeats 2000000 in
theorem implNear5_any (a0 a1 a2 a3 b0 b1 b2 b3 far : Nat) (w : World) :
    Calls Try.prog 12 #[.agg #[.float .f64 a0, .float .f64 a1, .float .f64 a2, .float .f64 a3], .agg #[.float .f64 b0, .float .f64 b1, .float .f64 b2, .float .f64 b3], .float .f64 far] w fun e w' => e = .returned (.bool (nearM ⟨a0, a1, a2, a3⟩ ⟨b0, b1, b2, b3⟩ far)) ∧ Below w.heap.size w w' := by
  rcases four (nearD (fl .sub .f64 a0 b0) far) (nearD (fl .sub .f64 a1 b1) far) (nearD (fl .sub .f64 a2 b2) far) (nearD (fl .sub .f64 a3 b3) far) with ⟨q0, hq⟩ | ⟨q0, q1, hq⟩ | ⟨q0, q1, q2, hq⟩ | ⟨q0, q1, q2, q3, hq⟩ | ⟨q0, q1, q2, q3, hq⟩
  all_goals (
    have HQ : Hid (nearM ⟨a0, a1, a2, a3⟩ ⟨b0, b1, b2, b3⟩ far = _) := hide hq
    clear hq
    go_enter Try.func12, Try.ntmps12
    go_wp2_with (first
      | (with_reducible show wpList _ _ _ (⟨_, .binOp .sub _ _ _ _, _, _, _, none⟩ :: _) _ _; refine at_flop (by decide) .f64 _ _ rfl rfl ?_; intro z1 n1 h1)
      | (go_at_call 20; refine (nearBy_any _ _ _).mono ?_; (first | (rw [(nearD_alike (by assumption) far).trans q0]) | (rw [(nearD_alike (by assumption) far).trans q1]) | (rw [(nearD_alike (by assumption) far).trans q2]) | (rw [(nearD_alike (by assumption) far).trans q3])); rintro e w3 ⟨rfl, rfl⟩))
    go_ret
    exact ⟨by rw [unhide HQ]; rfl, by simpa using bel2d _ _ _⟩)

end Go.Proofs.Ytdamnfiaciacmaa
