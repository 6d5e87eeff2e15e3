/-
  What the program's tests for finite numbers answer. No condition; nothing is written.
-/
import Derived.Test.YtomcbbpaajpeiaaChecked
import Derived.Test.YtomcbbpaajpeiaaFlWalk
import Derived.Laws.Externs
namespace Go.Proofs.Ytomcbbpaajpeiaa
open Go.RowKit

theorem andNot_top (x : Nat) : (BitVec.ofInt 64 (x : Int) &&& ~~~ BitVec.ofInt 64 9223372036854775808).toNat = x % 9223372036854775808 := by
  have h : (~~~ BitVec.ofInt 64 9223372036854775808 : BitVec 64).toNat = 2 ^ 63 - 1 := by decide
  rw [BitVec.toNat_and, h, Nat.and_two_pow_sub_one_eq_mod]
  simp only [BitVec.toNat_ofInt]
  omega

/-- What is left without its sign is infinite where it was. -/
theorem inf_abs (x : Nat) : (FloatKind.f64.format.order (x % 9223372036854775808) 9218868437227405311 == some .gt) = (FloatKind.f64.format.read x).isInfinity := by
  have hr := read_cases FloatKind.f64.format (binade_inf .f64)
  have h2 : (FloatKind.f64.format.read (x % 9223372036854775808)).isInfinity = (FloatKind.f64.format.read x).isInfinity := by
    rw [Bool.eq_iff_iff, (hr _).2, (hr _).2, sw64, Nat.mod_mod]
  rw [← h2, ← infB]
  have hneg : (FloatKind.f64.format.order (x % 9223372036854775808) low64 == some .lt) = false := by
    unfold Ieee.Format.order
    rw [read_low]
    have hn : (FloatKind.f64.format.read (x % 9223372036854775808)).neg = false := by
      unfold Ieee.Format.read
      rw [sw64, Nat.div_eq_of_lt (Nat.mod_lt _ (by omega))]
      dsimp only
      split
      · rfl
      · split
        · rfl
        · split <;> rfl
    cases hx : FloatKind.f64.format.read (x % 9223372036854775808) with
    | nan s t => rfl
    | infinity s =>
      rw [hx] at hn
      have hn : s = false := hn
      subst hn
      rfl
    | number s m e =>
      obtain ⟨hm, he⟩ := read64 hx
      obtain ⟨_, h2⟩ := no_more (s := s) hm he
      simp only [Ieee.Datum.order]
      rw [cmp_ge h2]
  rw [hneg, Bool.or_false]
  rfl

set_option maxHeartbeats 1000000 in
theorem isNaN_any (x : Nat) (w : World) :
    Calls Try.prog 24 #[.float .f64 x] w fun e w' => e = .returned (.bool (nanB .f64 x)) ∧ w' = w := by
  go_enter Try.func24, Try.ntmps24
  go_wp2
  go_ret
  refine ⟨?_, rfl⟩
  rw [← order_self_ne]
  rfl

end Go.Proofs.Ytomcbbpaajpeiaa
