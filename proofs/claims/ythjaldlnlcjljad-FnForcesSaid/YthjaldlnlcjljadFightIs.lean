/-
  What Fight answers in the model and in the program: the plain sum and code. At every list and bound; nothing that was there is written. The library's greatest and least of a list that is not empty.
-/
import Derived.Test.YthjaldlnlcjljadSmall
import Derived.Test.YthjaldlnlcjljadFightPure
namespace Go.Proofs.Ythjaldlnlcjljad
open Go.RowKit


set_option maxHeartbeats 1000000 in
theorem slicesMax_any (ad : Option Addr) (len cap : Nat) (zs : List Int) (w : World) (hr : Row w ad len zs) (h0 : 1 ≤ len) :
    Calls Try.prog 25 #[.slice ad len cap] w fun e w' => e = .returned (.int .i64 (greatTo zs len)) ∧ w' = w := by
  have hs := hr.small
  rcases hr.open_ with ⟨h1, _⟩ | ⟨bb, off, rfl, _, hc⟩
  · omega
  clear hr
  have c0 : w.cell? ⟨bb, off, none⟩ = some (.int .i64 (nth zs 0)) := hc 0 (by omega)
  have q0 : ¬ (len : Int) < 1 := by omega
  have q1 : (0 : Int) < (len : Int) := by omega
  have HC := hide hc
  clear hc
  go_enter Try.func25, Try.ntmps25
  go_wp2_with fail
  go_loopw [3, 4] (fun q i wr => ∃ k : Nat, q = .int .i64 (greatTo zs (k + 1)) ∧ i = .int .i64 ((k : Int) + 1) ∧ k + 1 ≤ len ∧ wr = w) (fun _ i _ => len - (intOf i).toNat)
  case atStart => exact ⟨0, by rw [greatTo_one], rfl, h0, rfl⟩
  case round =>
    obtain ⟨k, rfl, rfl, hk, hwr⟩ := hrel
    subst wr
    by_cases hlt : k + 1 < len
    · have ck := (unhide HC) (k + 1) hlt
      have i1 : (k : Int) + 1 < (len : Int) := by omega
      have i2 : ((k : Int) + 1).toNat = k + 1 := by omega
      have HN : Hid (greatTo zs (k + 1 + 1) = max (greatTo zs (k + 1)) (nth zs (k + 1))) := hide rfl
      go_wp2_with fail
      go_roundw
      case rel => exact ⟨k + 1, by rw [unhide HN]; congr 1; split <;> omega, by go_num, by omega, by first | rfl | trivial⟩
      case measure => simp [intOf]; omega
    · have i1 : ¬ (k : Int) + 1 < (len : Int) := by omega
      have HE : Hid (k + 1 = len) := hide (by omega)
      go_wp2_with fail
      go_ret
      exact ⟨ret_int (congrArg (greatTo zs) (unhide HE)), rfl⟩

set_option maxHeartbeats 1000000 in
theorem slicesMin_any (ad : Option Addr) (len cap : Nat) (zs : List Int) (w : World) (hr : Row w ad len zs) (h0 : 1 ≤ len) :
    Calls Try.prog 26 #[.slice ad len cap] w fun e w' => e = .returned (.int .i64 (leastTo zs len)) ∧ w' = w := by
  have hs := hr.small
  rcases hr.open_ with ⟨h1, _⟩ | ⟨bb, off, rfl, _, hc⟩
  · omega
  clear hr
  have c0 : w.cell? ⟨bb, off, none⟩ = some (.int .i64 (nth zs 0)) := hc 0 (by omega)
  have q0 : ¬ (len : Int) < 1 := by omega
  have q1 : (0 : Int) < (len : Int) := by omega
  have HC := hide hc
  clear hc
  go_enter Try.func26, Try.ntmps26
  go_wp2_with fail
  go_loopw [3, 4] (fun q i wr => ∃ k : Nat, q = .int .i64 (leastTo zs (k + 1)) ∧ i = .int .i64 ((k : Int) + 1) ∧ k + 1 ≤ len ∧ wr = w) (fun _ i _ => len - (intOf i).toNat)
  case atStart => exact ⟨0, by rw [leastTo_one], rfl, h0, rfl⟩
  case round =>
    obtain ⟨k, rfl, rfl, hk, hwr⟩ := hrel
    subst wr
    by_cases hlt : k + 1 < len
    · have ck := (unhide HC) (k + 1) hlt
      have i1 : (k : Int) + 1 < (len : Int) := by omega
      have i2 : ((k : Int) + 1).toNat = k + 1 := by omega
      have HN : Hid (leastTo zs (k + 1 + 1) = min (leastTo zs (k + 1)) (nth zs (k + 1))) := hide rfl
      go_wp2_with fail
      go_roundw
      case rel => exact ⟨k + 1, by rw [unhide HN]; congr 1; split <;> omega, by go_num, by omega, by first | rfl | trivial⟩
      case measure => simp [intOf]; omega
    · have i1 : ¬ (k : Int) + 1 < (len : Int) := by omega
      have HE : Hid (k + 1 = len) := hide (by omega)
      go_wp2_with fail
      go_ret
      exact ⟨ret_int (congrArg (leastTo zs) (unhide HE)), rfl⟩


set_option maxRecDepth 20000 in
set_option maxHeartbeats 2000000 in
theorem implFight_any (ad : Option Addr) (len cap : Nat) (zs : List Int) (bound : Int) (w : World) (hr : Row w ad len zs) :
    Calls Try.prog 12 #[.slice ad len cap, .int .i64 bound] w fun e w' => e = .returned (.tuple #[.int .i64 (fightS zs bound), .int .i64 (fightC zs bound)]) ∧ ∃ n, w' = w.drewN n := by
  have R := hide hr
  have hs := hr.small
  have HZ := hide hr.len_eq
  clear hr
  cases h1 : inB (len : Int) 1 5 with
  | false =>
    have HE := hide (fight_no (show fightOkB zs bound = false by unfold fightOkB; rw [unhide HZ, h1]; rfl))
    go_enter Try.func12, Try.ntmps12
    go_wp2_with (go_at_call 16; refine (within_is _ _ _ _ (by first | exact h1 | exact h3)).mono ?_; rintro e w' ⟨rfl, hw⟩; subst w')
    go_ret2
    exact ⟨ret_ii (unhide HE).1.symm (unhide HE).2.symm, 0, rfl⟩
  | true =>
  cases h2 : allB zs (-10000) 10000 with
  | false =>
    have HE := hide (fight_no (show fightOkB zs bound = false by unfold fightOkB; rw [unhide HZ, h1, h2]; rfl))
    go_enter Try.func12, Try.ntmps12
    go_wp2_with (go_at_call 16; refine (within_is _ _ _ _ (by first | exact h1 | exact h3)).mono ?_; rintro e w' ⟨rfl, hw⟩; subst w')
    refine (allWithin_any _ _ _ zs _ _ _ (unhide R)).mono ?_
    rintro e w1 ⟨rfl, n1, rfl⟩
    rw [h2]
    go_wp2_with fail
    go_ret2
    exact ⟨ret_ii (unhide HE).1.symm (unhide HE).2.symm, n1, rfl⟩
  | true =>
  cases h3 : inB bound 0 20000 with
  | false =>
    have HE := hide (fight_no (show fightOkB zs bound = false by unfold fightOkB; rw [unhide HZ, h1, h2, h3]; rfl))
    go_enter Try.func12, Try.ntmps12
    go_wp2_with (go_at_call 16; refine (within_is _ _ _ _ (by first | exact h1 | exact h3)).mono ?_; rintro e w' ⟨rfl, hw⟩; subst w')
    refine (allWithin_any _ _ _ zs _ _ _ (unhide R)).mono ?_
    rintro e w1 ⟨rfl, n1, rfl⟩
    rw [h2]
    go_wp2_with (go_at_call 16; refine (within_is _ _ _ _ (by first | exact h1 | exact h3)).mono ?_; rintro e w' ⟨rfl, hw⟩; subst w')
    go_ret2
    exact ⟨ret_ii (unhide HE).1.symm (unhide HE).2.symm, n1, rfl⟩
  | true =>
  have OK : Hid (fightOkB zs bound = true) := hide (by unfold fightOkB; rw [unhide HZ, h1, h2, h3]; rfl)
  have hl : (1 : Int) ≤ (len : Int) ∧ (len : Int) ≤ 5 := by simpa [inB] using h1
  have AL := hide (allB_every h2)
  have PB : Hid (∀ k, k ≤ len → -50000 ≤ pushTo zs k ∧ pushTo zs k ≤ 50000) := hide (fun k hk => by have := pushTo_bound (unhide AL) k (by rw [unhide HZ]; exact hk); omega)
  have LB : Hid (∀ k, k ≤ len → -10000 ≤ leastTo zs k ∧ leastTo zs k ≤ 10000) := hide (fun k hk => leastTo_bound (by rw [unhide HZ]; omega) (unhide AL) k (by rw [unhide HZ]; exact hk))
  have GB : Hid (∀ k, k ≤ len → -10000 ≤ greatTo zs k ∧ greatTo zs k ≤ 10000) := hide (fun k hk => greatTo_bound (by rw [unhide HZ]; omega) (unhide AL) k (by rw [unhide HZ]; exact hk))
  have hl1 := hl.1
  have hl2 := hl.2
  clear hl
  rcases (unhide R).open_ with ⟨h0, _⟩ | ⟨bb, off, rfl, _, hc⟩
  · omega
  have HC := hide hc
  have c0 : w.cell? ⟨bb, off, none⟩ = some (.int .i64 (nth zs 0)) := hc 0 (by omega)
  have q1 : (0 : Int) < (len : Int) := by omega
  clear hc
  go_enter Try.func12, Try.ntmps12
  go_wp2_with (go_at_call 16; refine (within_is _ _ _ _ (by first | exact h1 | exact h3)).mono ?_; rintro e w' ⟨rfl, hw⟩; subst w')
  refine (allWithin_any _ _ _ zs _ _ _ (unhide R)).mono ?_
  rintro e w1 ⟨rfl, n1, hw1⟩
  subst w1
  rw [h2]
  go_wp2_with (go_at_call 16; refine (within_is _ _ _ _ (by first | exact h1 | exact h3)).mono ?_; rintro e w' ⟨rfl, hw⟩; subst w')
  clear h1 h2 h3
  go_loopw [6, 25] (fun s i wr => ∃ k n : Nat, s = .int .i64 (pushTo zs k) ∧ i = .int .i64 (k : Int) ∧ k ≤ len ∧ wr = w.drewN n) (fun _ i _ => len - (intOf i).toNat)
  case atStart => exact ⟨0, n1, rfl, rfl, Nat.zero_le _, rfl⟩
  case round =>
    obtain ⟨k, n, rfl, rfl, hk, hwr⟩ := hrel
    subst wr
    have pb := (unhide PB) k hk
    by_cases hlt : k < len
    · have ck := (unhide HC) k hlt
      have i1 : (k : Int) < (len : Int) := by omega
      have ab := (unhide AL) k (by rw [unhide HZ]; exact hlt)
      go_wp2_with fail
      go_roundw
      case rel => exact ⟨k + 1, n, rfl, by go_num, by omega, by first | rfl | trivial⟩
      case measure => simp [intOf]; omega
    · have i1 : ¬ (k : Int) < (len : Int) := by omega
      have HK : Hid (k = zs.length) := hide (by rw [unhide HZ]; omega)
      have lb := (unhide LB) len (Nat.le_refl _)
      have gb := (unhide GB) len (Nat.le_refl _)
      by_cases hf : bound < greatTo zs len - leastTo zs len
      · have HE := hide (fight_far (unhide OK) (by rw [unhide HZ]; exact hf))
        go_wp2_with (first
          | (go_at_call 25; refine (slicesMax_any _ _ _ zs _ ((unhide R).drewN n) (by omega)).mono ?_; rintro e w' ⟨rfl, hw⟩; subst w')
          | (go_at_call 26; refine (slicesMin_any _ _ _ zs _ ((unhide R).drewN n) (by omega)).mono ?_; rintro e w' ⟨rfl, hw⟩; subst w'))
        go_ret2
        exact ⟨ret_ii (by rw [(unhide HE).1, ← unhide HK]) (unhide HE).2.symm, n, rfl⟩
      · have HE := hide (fight_near (unhide OK) (by rw [unhide HZ]; exact hf))
        go_wp2_with (first
          | (go_at_call 25; refine (slicesMax_any _ _ _ zs _ ((unhide R).drewN n) (by omega)).mono ?_; rintro e w' ⟨rfl, hw⟩; subst w')
          | (go_at_call 26; refine (slicesMin_any _ _ _ zs _ ((unhide R).drewN n) (by omega)).mono ?_; rintro e w' ⟨rfl, hw⟩; subst w'))
        go_ret2
        exact ⟨ret_ii (by rw [(unhide HE).1, ← unhide HK]) (unhide HE).2.symm, n, rfl⟩

end Go.Proofs.Ythjaldlnlcjljad
