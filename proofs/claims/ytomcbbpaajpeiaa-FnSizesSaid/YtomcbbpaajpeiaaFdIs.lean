/-
  Drawn floats: what the model draws are some floats, and nothing but the cursor's block has turned. No condition.
-/
import Derived.Test.YtomcbbpaajpeiaaMDkW
import Derived.Test.YtomcbbpaajpeiaaMApFar
import Derived.Test.YtomcbbpaajpeiaaWhole
import Derived.Test.YtomcbbpaajpeiaaFlWalk
import Derived.Test.YtomcbbpaajpeiaaSmoothIs
import Derived.Deep.Cut
namespace Go.Proofs.Ytomcbbpaajpeiaa
open Go Go.RowKit
attribute [local go_sem] run_store_float

theorem Dk.drewN {w : World} {C : Nat} {a : Option Addr} {len cap : Nat} {W0 : World} {W : World} (h : Dk w C a len cap W0 W) (n : Nat) : Dk w C a len cap W0 (W.drewN n) := h.below (bel0d' n)
theorem dkBelow {w : World} {C : Nat} {a : Option Addr} {len cap : Nat} {W0 : World} (n : Int) (W : World) (h : Dk w C a len cap W0 W) (hn : 1 ≤ n ∧ n ≤ 1000000) :
    Calls Try.prog 23 #[.pointer (some ⟨C, 0, none⟩), .int .i64 n] W fun e w' => ∃ x : Int, e = .returned (.int .i64 x) ∧ (0 ≤ x ∧ x < n) ∧ Dk w C a len cap W0 w' ∧ W.grownBy w' (some C) := by
  refine (drBelow n W h.d hn).mono ?_
  rintro e w' ⟨x, rfl, hx, d, g⟩
  exact ⟨x, rfl, hx, h.call g d, g⟩
theorem dkOnce {w : World} {C : Nat} {a : Option Addr} {len cap : Nat} {W0 : World} (n : Int) (W : World) (h : Dk w C a len cap W0 W) (hn : 1 ≤ n ∧ n ≤ 1000000) :
    Calls Try.prog 28 #[.pointer (some ⟨C, 0, none⟩), .int .i64 n] W fun e w' => ∃ x : Bool, e = .returned (.bool x) ∧ Dk w C a len cap W0 w' ∧ W.grownBy w' (some C) := by
  refine (drOnce n W h.d hn).mono ?_
  rintro e w' ⟨x, rfl, d, g⟩
  exact ⟨x, rfl, h.call g d, g⟩

/-- The minus of a float. -/
theorem at_fneg {P : Program} {w : World} {ops : Array Oper} {rest : List Oper} {o : Option Tmp} {t ty : TypeId} {l : Operand} {pos : String} {af : Array Edge} {a : Act} {Q : Exit → Act → World → Prop}
    (k : FloatKind) (x : Nat) (hl : a.eval l = .float k x) (hK : ∀ z, wpList P ops Q rest (a.put o (.float k z)) w) :
    wpList P ops Q (⟨o, .unOp .neg t l, ty, pos, af, none⟩ :: rest) a w := by
  refine wpList_plain rfl fun K hK' => ?_
  unfold Oper.wp
  simp [execOp, hl, Op.unary]
  exact hK' _ _ (hK _)

set_option maxHeartbeats 1000000 in
/-- Minus zero, an infinity or a NaN. -/
theorem l4Odd_any (k : Int) (w : World) :
    Calls Try.prog 29 #[.int .i64 k, .float .f32 0] w fun e w' => ∃ z, e = .returned (.float .f32 z) ∧ ∃ n, w' = w.drewN n := by
  by_cases h0 : k = 0
  · subst h0
    go_enter Try.func29, Try.ntmps29
    go_wp2_with (with_reducible show wpList _ _ _ (⟨_, .unOp _ _ _, _, _, _, none⟩ :: _) _ _; refine at_fneg .f32 _ rfl ?_; intro z1)
    go_ret
    exact ⟨_, rfl, 0, rfl⟩
  by_cases h1 : k = 1
  · subst h1
    go_enter Try.func29, Try.ntmps29
    go_wp2_with (with_reducible show wpList _ _ _ (⟨_, .binOp .quo _ _ _ _, _, _, _, none⟩ :: _) _ _; refine at_flop (by decide) .f32 _ _ rfl rfl ?_; intro z1 n1 h1)
    go_ret
    exact ⟨_, rfl, _, rfl⟩
  by_cases h2 : k = 2
  · subst h2
    go_enter Try.func29, Try.ntmps29
    go_wp2_with (with_reducible show wpList _ _ _ (⟨_, .binOp .quo _ _ _ _, _, _, _, none⟩ :: _) _ _; refine at_flop (by decide) .f32 _ _ rfl rfl ?_; intro z1 n1 h1)
    go_ret
    exact ⟨_, rfl, _, rfl⟩
  · go_enter Try.func29, Try.ntmps29
    go_wp2_with (with_reducible show wpList _ _ _ (⟨_, .binOp .quo _ _ _ _, _, _, _, none⟩ :: _) _ _; refine at_flop (by decide) .f32 _ _ rfl rfl ?_; intro z1 n1 h1)
    go_ret
    exact ⟨_, rfl, _, rfl⟩

set_option maxRecDepth 20000 in
set_option maxHeartbeats 4000000 in
theorem l4DrawFloat_any {w : World} {C : Nat} {a : Option Addr} {len cap : Nat} {W0 : World} (W : World) (h : Dk w C a len cap W0 W) :
    Calls Try.prog 25 #[.pointer (some ⟨C, 0, none⟩)] W fun e w' => ∃ z, e = .returned (.float .f32 z) ∧ Dk w C a len cap W0 w' := by
  have K0 := hide h
  clear h
  go_enter Try.func25, Try.ntmps25
  go_wp2_with fail
  refine (dkBelow 9 _ (unhide K0) (by omega)).mono ?_
  rintro e w1 ⟨x, rfl, hx, k1, _⟩
  have K1 := hide k1
  clear k1 K0
  rcases (show x = 0 ∨ x = 1 ∨ x = 2 ∨ x = 3 ∨ x = 4 ∨ x = 5 ∨ x = 6 ∨ x = 7 ∨ x = 8 by omega) with rfl | rfl | rfl | rfl | rfl | rfl | rfl | rfl | rfl
  · go_wp2_with fail
    refine (dkBelow 2001 _ (unhide K1) (by omega)).mono ?_
    rintro e w2 ⟨k2, rfl, hk2, kk, _⟩
    have K2 := hide kk
    clear kk
    go_wp2_with (with_reducible show wpList _ _ _ (⟨_, .binOp .quo _ _ _ _, _, _, _, none⟩ :: _) _ _; refine at_flop (by decide) .f32 _ _ rfl rfl ?_; intro z1 n1 h1)
    go_ret
    exact ⟨_, rfl, (unhide K2).drewN _⟩
  · go_wp2_with fail
    refine (dkBelow 2001 _ (unhide K1) (by omega)).mono ?_
    rintro e w2 ⟨k2, rfl, hk2, kk, _⟩
    have K2 := hide kk
    clear kk
    go_wp2_with (with_reducible show wpList _ _ _ (⟨_, .binOp .quo _ _ _ _, _, _, _, none⟩ :: _) _ _; refine at_flop (by decide) .f32 _ _ rfl rfl ?_; intro z1 n1 h1)
    refine (dkBelow 60 _ ((unhide K2).drewN _) (by omega)).mono ?_
    rintro e w3 ⟨k3, rfl, hk3, kk, _⟩
    have K3 := hide kk
    clear kk
    obtain ⟨m, rfl⟩ : ∃ m : Nat, k3 = (m : Int) := ⟨k3.toNat, by omega⟩
    go_wp2
    go_loopw [3, 4] (fun xv i wr => ∃ (j : Nat) (y : Nat), xv = .float .f32 y ∧ i = .int .i64 (j : Int) ∧ j ≤ 1000 ∧ Dk w C a len cap W0 wr) (fun _ i _ => (intOf i).toNat)
    case atStart => exact ⟨m, _, rfl, rfl, by omega, unhide K3⟩
    case round =>
      clear K1 K2 K3
      obtain ⟨j, y, rfl, rfl, hj, kk⟩ := hrel
      have K4 := hide kk
      clear kk
      by_cases hz : 0 < j
      · have hz1 : (0 : Int) < (j : Int) := by omega
        go_wp2_with (with_reducible show wpList _ _ _ (⟨_, .binOp .mul _ _ _ _, _, _, _, none⟩ :: _) _ _; refine at_flop (by decide) .f32 _ _ rfl rfl ?_; intro z1 n1 h1)
        go_roundw
        case rel => exact ⟨j - 1, _, rfl, by go_num, by omega, (unhide K4).drewN _⟩
        case measure => simp [intOf]; omega
      · have hz1 : ¬ (0 : Int) < (j : Int) := by omega
        go_wp2
        go_ret
        exact ⟨⟨_, rfl⟩, unhide K4⟩
  · go_wp2_with fail
    refine (dkBelow 2001 _ (unhide K1) (by omega)).mono ?_
    rintro e w2 ⟨k2, rfl, hk2, kk, _⟩
    have K2 := hide kk
    clear kk
    go_wp2_with (with_reducible show wpList _ _ _ (⟨_, .binOp .quo _ _ _ _, _, _, _, none⟩ :: _) _ _; refine at_flop (by decide) .f32 _ _ rfl rfl ?_; intro z1 n1 h1)
    refine (dkBelow 80 _ ((unhide K2).drewN _) (by omega)).mono ?_
    rintro e w3 ⟨k3, rfl, hk3, kk, _⟩
    have K3 := hide kk
    clear kk
    obtain ⟨m, rfl⟩ : ∃ m : Nat, k3 = (m : Int) := ⟨k3.toNat, by omega⟩
    go_wp2
    go_loopw [5, 6] (fun xv i wr => ∃ (j : Nat) (y : Nat), xv = .float .f32 y ∧ i = .int .i64 (j : Int) ∧ j ≤ 1000 ∧ Dk w C a len cap W0 wr) (fun _ i _ => (intOf i).toNat)
    case atStart => exact ⟨m, _, rfl, rfl, by omega, unhide K3⟩
    case round =>
      clear K1 K2 K3
      obtain ⟨j, y, rfl, rfl, hj, kk⟩ := hrel
      have K4 := hide kk
      clear kk
      by_cases hz : 0 < j
      · have hz1 : (0 : Int) < (j : Int) := by omega
        go_wp2_with (with_reducible show wpList _ _ _ (⟨_, .binOp .quo _ _ _ _, _, _, _, none⟩ :: _) _ _; refine at_flop (by decide) .f32 _ _ rfl rfl ?_; intro z1 n1 h1)
        go_roundw
        case rel => exact ⟨j - 1, _, rfl, by go_num, by omega, (unhide K4).drewN _⟩
        case measure => simp [intOf]; omega
      · have hz1 : ¬ (0 : Int) < (j : Int) := by omega
        go_wp2
        go_ret
        exact ⟨⟨_, rfl⟩, unhide K4⟩
  · go_wp2_with fail
    refine (dkOnce 5 _ (unhide K1) (by omega)).mono ?_
    rintro e w2 ⟨b, rfl, kk, _⟩
    have K2 := hide kk
    clear kk
    cases b
    · go_wp2_with fail
      refine (dkBelow 21 _ (unhide K2) (by omega)).mono ?_
      rintro e w3 ⟨k3, rfl, hk3, kk, _⟩
      have K3 := hide kk
      clear kk
      go_wp2
      go_ret
      exact ⟨_, rfl, unhide K3⟩
    · go_wp2_with fail
      refine (dkBelow 4 _ (unhide K2) (by omega)).mono ?_
      rintro e w3 ⟨k3, rfl, hk3, kk, _⟩
      have K3 := hide kk
      clear kk
      go_wp2_with fail
      refine (l4Odd_any _ _).mono ?_
      rintro e w4 ⟨z, rfl, n4, hw4⟩
      subst hw4
      go_wp2
      go_ret
      exact ⟨_, rfl, (unhide K3).drewN _⟩
  · go_wp2_with fail
    refine (dkBelow 81 _ (unhide K1) (by omega)).mono ?_
    rintro e w2 ⟨k2, rfl, hk2, kk, _⟩
    have K2 := hide kk
    clear kk
    go_wp2_with (with_reducible show wpList _ _ _ (⟨_, .binOp .quo _ _ _ _, _, _, _, none⟩ :: _) _ _; refine at_flop (by decide) .f32 _ _ rfl rfl ?_; intro z1 n1 h1)
    go_ret
    exact ⟨_, rfl, (unhide K2).drewN _⟩
  · go_wp2_with fail
    refine (dkBelow 81 _ (unhide K1) (by omega)).mono ?_
    rintro e w2 ⟨k2, rfl, hk2, kk, _⟩
    have K2 := hide kk
    clear kk
    go_wp2_with (with_reducible show wpList _ _ _ (⟨_, .binOp .quo _ _ _ _, _, _, _, none⟩ :: _) _ _; refine at_flop (by decide) .f32 _ _ rfl rfl ?_; intro z1 n1 h1)
    go_ret
    exact ⟨_, rfl, (unhide K2).drewN _⟩
  · go_wp2_with fail
    refine (dkBelow 21 _ (unhide K1) (by omega)).mono ?_
    rintro e w2 ⟨k2, rfl, hk2, kk, _⟩
    have K2 := hide kk
    clear kk
    go_wp2
    go_ret
    exact ⟨_, rfl, unhide K2⟩
  · go_wp2_with fail
    refine (dkBelow 21 _ (unhide K1) (by omega)).mono ?_
    rintro e w2 ⟨k2, rfl, hk2, kk, _⟩
    have K2 := hide kk
    clear kk
    go_wp2
    go_ret
    exact ⟨_, rfl, unhide K2⟩
  · go_wp2_with fail
    refine (dkBelow 21 _ (unhide K1) (by omega)).mono ?_
    rintro e w2 ⟨k2, rfl, hk2, kk, _⟩
    have K2 := hide kk
    clear kk
    go_wp2
    go_ret
    exact ⟨_, rfl, unhide K2⟩

end Go.Proofs.Ytomcbbpaajpeiaa
