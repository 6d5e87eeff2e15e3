/-
  How many of a list of complex numbers have a part below 0, and when that is told. No condition.
  What the library's test for a NaN answers. No condition; nothing is written.
-/
import Derived.Test.YtomcbbpaajpeiaaRowC
import Derived.Test.YtomcbbpaajpeiaaFlFin
import Derived.Test.YtomcbbpaajpeiaaChecked
import Derived.Test.YtomcbbpaajpeiaaFlWide

namespace Go.Proofs.Ytomcbbpaajpeiaa
open Go

def nanAt (ps : List (Nat × Nat)) (j : Nat) : Bool := nanB .f64 (reAt ps j) || nanB .f64 (imAt ps j)
def lowAt (ps : List (Nat × Nat)) (j : Nat) : Bool := FloatKind.f64.format.order (reAt ps j) 0 == some .lt
def dampTo (ps : List (Nat × Nat)) : Nat → Nat
  | 0 => 0
  | j + 1 => dampTo ps j + (lowAt ps j).toNat
def seenTo (ps : List (Nat × Nat)) : Nat → Bool
  | 0 => true
  | j + 1 => seenTo ps j && !nanAt ps j
def dampB (ps : List (Nat × Nat)) : Bool := decide (ps.length ≤ 12) && seenTo ps ps.length
def dampN (ps : List (Nat × Nat)) : Int := bif dampB ps then (dampTo ps ps.length : Int) else 0

theorem dampTo_succ (ps : List (Nat × Nat)) (j : Nat) : dampTo ps (j + 1) = dampTo ps j + (lowAt ps j).toNat := rfl
theorem seenTo_succ (ps : List (Nat × Nat)) (j : Nat) : seenTo ps (j + 1) = (seenTo ps j && !nanAt ps j) := rfl
theorem seenTo_no {ps : List (Nat × Nat)} {j : Nat} (h : nanAt ps j = true) : ∀ n, j < n → seenTo ps n = false
  | 0, hn => by omega
  | n + 1, hn => by
    unfold seenTo
    rcases Nat.lt_succ_iff_lt_or_eq.1 hn with e | e
    · rw [seenTo_no h n e]; rfl
    · subst e; rw [h]; simp
theorem dampB_no {ps : List (Nat × Nat)} {j : Nat} (h : nanAt ps j = true) (hj : j < ps.length) : dampB ps = false := by
  unfold dampB
  rw [seenTo_no h _ hj, Bool.and_false]
theorem dampTo_le (ps : List (Nat × Nat)) : ∀ j, dampTo ps j ≤ j
  | 0 => Nat.le_refl _
  | j + 1 => by
    have := dampTo_le ps j
    have : (lowAt ps j).toNat ≤ 1 := by cases lowAt ps j <;> decide
    unfold dampTo
    omega

end Go.Proofs.Ytomcbbpaajpeiaa

namespace Go.Proofs.Ytomcbbpaajpeiaa
open Go.RowKit

set_option maxHeartbeats 1000000 in
theorem isNaN_is (x : Nat) (w : World) :
    Calls Try.prog 24 #[.float .f64 x] w fun e w' => e = .returned (.bool (nanB .f64 x)) ∧ w' = w := by
  go_enter Try.func24, Try.ntmps24
  go_wp2
  go_ret
  refine ⟨?_, rfl⟩
  rw [← order_self_ne]
  rfl

end Go.Proofs.Ytomcbbpaajpeiaa
