/-
  What the small functions on whole numbers and their lists answer (l1In, l1All, l1Rise of the model; within, allWithin, ascending of the program; szIntS, eqIntS, toIntS of the law): at every argument, with no memory written that was there.
-/
import Derived.Test.YtemodlgmjgdjpaaGreatDoorChecked
import Derived.Test.YtemodlgmjgdjpaaGreatDoorMBase
namespace Go.Proofs.YtemodlgmjgdjpaaGreatDoor
open Go.RowKit

set_option maxHeartbeats 400000 in
theorem l1In_any (x a b : Int) (w : World) :
    Calls Tryz.prog 60 #[.int .i64 x, .int .i64 a, .int .i64 b] w fun e w' => e = .returned (.bool (inB x a b)) ∧ w' = w := by
  by_cases h1 : a ≤ x <;> by_cases h2 : x ≤ b
  all_goals
    go_enter Tryz.func60, Tryz.ntmps60
    go_wp2
    go_ret
    exact ⟨ret_bool (by simp [inB]; omega), rfl⟩

set_option maxHeartbeats 400000 in
theorem within_any (x a b : Int) (w : World) :
    Calls Tryz.prog 47 #[.int .i64 x, .int .i64 a, .int .i64 b] w fun e w' => e = .returned (.bool (inB x a b)) ∧ w' = w := by
  by_cases h1 : a ≤ x <;> by_cases h2 : x ≤ b
  all_goals
    go_enter Tryz.func47, Tryz.ntmps47
    go_wp2
    go_ret
    exact ⟨ret_bool (by simp [inB]; omega), rfl⟩

theorem l1In_is {c : Bool} (x a b : Int) (w : World) (hc : inB x a b = c) :
    Calls Tryz.prog 60 #[.int .i64 x, .int .i64 a, .int .i64 b] w fun e w' => e = .returned (.bool c) ∧ w' = w := by
  subst hc; exact l1In_any x a b w
theorem within_is {c : Bool} (x a b : Int) (w : World) (hc : inB x a b = c) :
    Calls Tryz.prog 47 #[.int .i64 x, .int .i64 a, .int .i64 b] w fun e w' => e = .returned (.bool c) ∧ w' = w := by
  subst hc; exact within_any x a b w

theorem allB_true {zs : List Int} {a b : Int} (h : ∀ j, j < zs.length → inB (nth zs j) a b = true) : allB zs a b = true := by
  simp only [allB, decide_eq_true_eq]; exact h
theorem allB_false {zs : List Int} {a b : Int} {j : Nat} (hj : j < zs.length) (h : inB (nth zs j) a b = false) : allB zs a b = false := by
  simp only [allB, decide_eq_false_iff_not]; intro k; have := k j hj; rw [h] at this; cases this



theorem riseB_true {zs : List Int} (h : ∀ j, j + 1 < zs.length → nth zs j < nth zs (j + 1)) : riseB zs = true := by
  simp only [riseB, decide_eq_true_eq]; exact fun i hi => h i (by omega)
theorem riseB_false {zs : List Int} {j : Nat} (hj : j + 1 < zs.length) (h : nth zs (j + 1) ≤ nth zs j) : riseB zs = false := by
  simp only [riseB, decide_eq_false_iff_not]; intro k; have := k j (by omega); omega


set_option maxHeartbeats 400000 in
theorem ascending_any (ad : Option Addr) (len cap : Nat) (zs : List Int) (w : World) (hr : Row w ad len zs) :
    Calls Tryz.prog 82 #[.slice ad len cap] w fun e w' => e = .returned (.bool (riseB zs)) ∧ ∃ n, w' = w.drewN n := by
  have hz := hr.len_eq
  have hs := hr.small
  have hopen := hr.open_
  clear hr
  subst hz
  go_enter Tryz.func82, Tryz.ntmps82
  go_wp2
  go_loopw [3] (fun i wr => ∃ k n : Nat, i = .int .i64 ((k : Int) + 1) ∧ k ≤ zs.length ∧ Hid (∀ j, j < k → j + 1 < zs.length → nth zs j < nth zs (j + 1)) ∧ wr = w.drewN n) (fun i _ => zs.length + 1 - (intOf i).toNat)
  case atStart => exact ⟨0, 0, rfl, by omega, (fun j hj => by omega), rfl⟩
  case round =>
    obtain ⟨k, n, rfl, hk, hall, rfl⟩ := hrel
    by_cases hlt : k + 1 < zs.length
    · rcases hopen with ⟨h0, _⟩ | ⟨bb, off, rfl, _, hc⟩
      · simp [h0] at hlt
      have hc1 := hc k (by omega)
      have hc2 := hc (k + 1) hlt
      have hi1 : (0 : Int) ≤ (k : Int) := by omega
      have hi2 : (k : Int) < (zs.length : Int) := by omega
      have hi3 : (k : Int) + 1 < (zs.length : Int) := by omega
      have hi4 : ((k : Int) + 1).toNat = k + 1 := by omega
      clear hc
      by_cases hin : nth zs k < nth zs (k + 1)
      · go_wp2
        go_quiet (fail)
        go_wp2
        go_roundw
        case rel => exact ⟨k + 1, _, by go_num, by omega, (fun j hj h2 => by rcases Nat.lt_succ_iff_lt_or_eq.1 hj with h | h; exact hall.out j h h2; subst h; exact hin), rfl⟩
        case measure => simp [intOf]; omega
      · go_wp2
        go_quiet (fail)
        go_wp2
        go_ret
        exact ⟨ret_bool (riseB_false hlt (by omega)).symm, dn2 _ _ _⟩
    · go_wp2
      go_ret
      exact ⟨ret_bool (riseB_true fun j hj => hall.out j (by omega) hj).symm, n, rfl⟩

theorem eqB_true {xs ys : List Int} (hl : xs.length = ys.length) (h : ∀ j, j < xs.length → nth xs j = nth ys j) : eqB xs ys = true := by
  simp only [eqB, decide_eq_true_eq]; exact ⟨hl, h⟩
theorem eqB_false {xs ys : List Int} {j : Nat} (hj : j < xs.length) (h : ¬ nth xs j = nth ys j) : eqB xs ys = false := by
  simp only [eqB, decide_eq_false_iff_not]; intro k; exact h (k.2 j hj)
theorem eqB_len {xs ys : List Int} (h : ¬ xs.length = ys.length) : eqB xs ys = false := by
  simp only [eqB, decide_eq_false_iff_not]; intro k; exact h k.1
theorem eqB_refl (xs : List Int) : eqB xs xs = true := eqB_true rfl fun _ _ => rfl

set_option maxHeartbeats 400000 in
theorem eqIntS_any (ad bd : Option Addr) (len cap len2 cap2 : Nat) (zs ys : List Int) (w : World) (hr : Row w ad len zs) (hr2 : Row w bd len2 ys) :
    Calls Tryz.prog 28 #[.slice ad len cap, .slice bd len2 cap2] w fun e w' => e = .returned (.bool (eqB zs ys)) ∧ ∃ n, w' = w.drewN n := by
  have hz := hr.len_eq
  have hs := hr.small
  have hopen := hr.open_
  have hz2 := hr2.len_eq
  have hs2 := hr2.small
  have hopen2 := hr2.open_
  clear hr hr2
  subst hz
  subst hz2
  by_cases hne : zs.length = ys.length
  · have hb : ((zs.length : Int) != (ys.length : Int)) = false := by simp; omega
    have Hne := hide hne
    have hle : zs.length ≤ ys.length := by omega
    clear hne
    go_enter Tryz.func28, Tryz.ntmps28
    go_wp2
    go_loopw [5] (fun i wr => ∃ k n : Nat, k ≤ zs.length ∧ i = .int .i64 k ∧ Hid (∀ j, j < k → nth zs j = nth ys j) ∧ wr = w.drewN n) (fun i _ => zs.length - (intOf i).toNat)
    case atStart => exact ⟨0, 0, Nat.zero_le _, rfl, (fun j hj => by omega), rfl⟩
    case round =>
      obtain ⟨k, n, hk, rfl, hall, rfl⟩ := hrel
      by_cases hlt : k < zs.length
      · rcases hopen with ⟨h0, _⟩ | ⟨bb, off, rfl, _, hc⟩
        · omega
        rcases hopen2 with ⟨h0, _⟩ | ⟨bb2, off2, rfl, _, hc2⟩
        · omega
        have hcell := hc k hlt
        have hcell2 := hc2 k (by omega)
        have hi1 : (0 : Int) ≤ (k : Int) := by omega
        have hi2 : (k : Int) < (zs.length : Int) := by omega
        have hi3 : (k : Int) < (ys.length : Int) := by omega
        clear hc hc2
        by_cases hin : nth zs k = nth ys k
        · have hbin : (nth zs k != nth ys k) = false := by simp [hin]
          have Hin := hide hin
          clear hin
          go_wp2
          go_quiet (fail)
          go_wp2
          go_roundw
          case rel => exact ⟨k + 1, _, by omega, by go_num, (fun j hj => by rcases Nat.lt_succ_iff_lt_or_eq.1 hj with h | h; exact hall.out j h; subst h; exact unhide Hin), rfl⟩
          case measure => simp [intOf]; omega
        · have hbin : (nth zs k != nth ys k) = true := by simp [hin]
          have Hin := hide hin
          clear hin
          go_wp2
          go_quiet (fail)
          go_wp2
          go_ret
          exact ⟨ret_bool (eqB_false hlt (unhide Hin)).symm, dn2 _ _ _⟩
      · go_wp2
        go_ret
        exact ⟨ret_bool (eqB_true (unhide Hne) fun j hj => hall.out j (by omega)).symm, n, rfl⟩
  · have hb : ((zs.length : Int) != (ys.length : Int)) = true := by simp; omega
    go_enter Tryz.func28, Tryz.ntmps28
    go_wp2
    go_ret
    exact ⟨ret_bool (eqB_len hne).symm, 0, rfl⟩

end Go.Proofs.YtemodlgmjgdjpaaGreatDoor
