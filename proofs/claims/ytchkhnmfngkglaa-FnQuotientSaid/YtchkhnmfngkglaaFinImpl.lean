/-
  What the program's tests for finite numbers answer. No condition; nothing is written.
-/
import Derived.Test.YtchkhnmfngkglaaChecked
import Derived.Test.YtchkhnmfngkglaaFlWalk
import Derived.Laws.Externs
namespace Go.Proofs.Ytchkhnmfngkglaa
open Go.RowKit

theorem run_bits (x : Nat) (w : World) : (callFunc 47 #[.float .f64 x]).run Try.prog w = .ok (.value (.int .u64 x)) w := by
  rw [run_callFunc_extern (e := Extern.MathFloatBits.float64bits) Try.func47 (by kernel_rfl) (by kernel_rfl) (by kernel_rfl) (by kernel_rfl)]
  rfl
theorem run_frombits (n : Int) (w : World) : (callFunc 46 #[.int .u64 n]).run Try.prog w = .ok (.value (.float .f64 n.toNat)) w := by
  rw [run_callFunc_extern (e := Extern.MathFloatBits.float64frombits) Try.func46 (by kernel_rfl) (by kernel_rfl) (by kernel_rfl) (by kernel_rfl)]
  rfl
theorem andNot_top (x : Nat) : (BitVec.ofInt 64 (x : Int) &&& ~~~ BitVec.ofInt 64 9223372036854775808).toNat = x % 9223372036854775808 := by
  have h : (~~~ BitVec.ofInt 64 9223372036854775808 : BitVec 64).toNat = 2 ^ 63 - 1 := by decide
  rw [BitVec.toNat_and, h, Nat.and_two_pow_sub_one_eq_mod]
  simp only [BitVec.toNat_ofInt]
  omega

set_option maxHeartbeats 1000000 in
theorem abs_any (x : Nat) (w : World) :
    Calls Try.prog 45 #[.float .f64 x] w fun e w' => e = .returned (.float .f64 (x % 9223372036854775808)) ∧ w' = w := by
  have e1 := run_bits
  have e2 := run_frombits
  go_enter Try.func45, Try.ntmps45
  go_wp2
  go_ret
  refine ⟨?_, rfl⟩
  rw [← andNot_top x]
  show Ending.returned (.float .f64 (bits .andNot .u64 (x : Int) 9223372036854775808).toNat) = _
  congr 2
  show (IntKind.u64.wrap ((BitVec.ofInt 64 (x : Int) &&& ~~~ BitVec.ofInt 64 9223372036854775808).toNat : Int)).toNat = _
  rw [andNot_top x]
  unfold IntKind.wrap
  simp [IntKind.bits, IntKind.signed]
  omega

/-- What is left without its sign is infinite where it was. -/
theorem inf_abs (x : Nat) : (FloatKind.f64.format.order (x % 9223372036854775808) 9218868437227405311 == some .gt) = (FloatKind.f64.format.read x).isInfinity := by
  have hr := read_cases FloatKind.f64.format (binade_inf .f64)
  have h2 : (FloatKind.f64.format.read (x % 9223372036854775808)).isInfinity = (FloatKind.f64.format.read x).isInfinity := by
    rw [Bool.eq_iff_iff, (hr _).2, (hr _).2, sw64, Nat.mod_mod]
  rw [← h2, ← infB]
  have hneg : (FloatKind.f64.format.order (x % 9223372036854775808) low64 == some .lt) = false := by
    unfold Ieee.Format.order
    rw [read_low]
    have hn : (FloatKind.f64.format.read (x % 9223372036854775808)).neg = false := by
      unfold Ieee.Format.read
      rw [sw64, Nat.div_eq_of_lt (Nat.mod_lt _ (by omega))]
      dsimp only
      split
      · rfl
      · split
        · rfl
        · split <;> rfl
    cases hx : FloatKind.f64.format.read (x % 9223372036854775808) with
    | nan s t => rfl
    | infinity s =>
      rw [hx] at hn
      have hn : s = false := hn
      subst hn
      rfl
    | number s m e =>
      obtain ⟨hm, he⟩ := read64 hx
      obtain ⟨_, h2⟩ := no_more (s := s) hm he
      simp only [Ieee.Datum.order]
      rw [cmp_ge h2]
  rw [hneg, Bool.or_false]
  rfl

set_option maxHeartbeats 1000000 in
theorem isNaN_any (x : Nat) (w : World) :
    Calls Try.prog 31 #[.float .f64 x] w fun e w' => e = .returned (.bool (nanB .f64 x)) ∧ w' = w := by
  go_enter Try.func31, Try.ntmps31
  go_wp2
  go_ret
  refine ⟨?_, rfl⟩
  rw [← order_self_ne]
  rfl

set_option maxHeartbeats 1000000 in
theorem isInf_any (x : Nat) (w : World) :
    Calls Try.prog 40 #[.float .f64 x, .int .i64 0] w fun e w' => e = .returned (.bool (FloatKind.f64.format.read x).isInfinity) ∧ w' = w := by
  go_enter Try.func40, Try.ntmps40
  go_wp2_with fail
  refine (abs_any _ _).mono ?_
  rintro e w' ⟨rfl, hw⟩
  subst w'
  go_wp2_with fail
  go_ret
  refine ⟨?_, rfl⟩
  rw [← inf_abs]
  rfl

set_option maxHeartbeats 1000000 in
theorem finite_any (x : Nat) (w : World) :
    Calls Try.prog 34 #[.float .f64 x] w fun e w' => e = .returned (.bool (finB x)) ∧ w' = w := by
  unfold finB
  cases hn : nanB .f64 x with
  | true =>
    go_enter Try.func34, Try.ntmps34
    go_wp2_with fail
    refine (isNaN_any _ _).mono ?_
    rw [hn]
    rintro e w' ⟨rfl, hw⟩
    subst w'
    go_wp2_with fail
    go_ret
    exact ⟨rfl, rfl⟩
  | false =>
    go_enter Try.func34, Try.ntmps34
    go_wp2_with fail
    refine (isNaN_any _ _).mono ?_
    rw [hn]
    rintro e w' ⟨rfl, hw⟩
    subst w'
    go_wp2_with fail
    refine (isInf_any _ _).mono ?_
    rintro e w' ⟨rfl, hw⟩
    subst w'
    go_wp2_with fail
    go_ret
    exact ⟨rfl, rfl⟩

set_option maxHeartbeats 1000000 in
theorem bothFinite_any (x y : Nat) (w : World) :
    Calls Try.prog 33 #[.complex .f64 x y] w fun e w' => e = .returned (.bool (finB x && finB y)) ∧ w' = w := by
  cases hn : finB x with
  | false =>
    go_enter Try.func33, Try.ntmps33
    go_wp2_with fail
    refine (finite_any _ _).mono ?_
    rw [hn]
    rintro e w' ⟨rfl, hw⟩
    subst w'
    go_wp2_with fail
    go_ret
    exact ⟨rfl, rfl⟩
  | true =>
    go_enter Try.func33, Try.ntmps33
    go_wp2_with fail
    refine (finite_any _ _).mono ?_
    rw [hn]
    rintro e w' ⟨rfl, hw⟩
    subst w'
    go_wp2_with fail
    refine (finite_any _ _).mono ?_
    rintro e w' ⟨rfl, hw⟩
    subst w'
    go_wp2_with fail
    go_ret
    exact ⟨rfl, rfl⟩

end Go.Proofs.Ytchkhnmfngkglaa
