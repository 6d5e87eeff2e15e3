/-
  What Law answers in the model: the plain number and code at every argument; nothing that was there is written.
-/
import Derived.Test.YtbaocifpifbldarGaAt
import Derived.Test.YtbaocifpifbldarLimIs
import Derived.Test.YtbaocifpifbldarLwPure
import Derived.Test.YtbaocifpifbldarBel
namespace Go.Proofs.Ytbaocifpifbldar
open Go.RowKit

set_option maxRecDepth 20000 in
set_option maxHeartbeats 8000000 in
theorem specLaw_bad (m : Int) (a1 a2 : Option Addr) (l1 c1 l2 c2 : Nat) (xs ys : List Int) (k r v l lo hi st now : Int) (w : World) (hr : GaIn w a1 a2 l1 l2 xs ys) (hb : lwOk m xs ys k r l lo hi st now = false) :
    Calls Try.prog 20 #[.int .i64 m, .agg #[.slice a1 l1 c1, .slice a2 l2 c2], .agg #[.int .i64 k, .int .i64 r, .int .i64 v, .int .i64 l], .agg #[.int .i64 lo, .int .i64 hi, .int .i64 st], .int .i64 now] w fun e w' => e = .returned (.tuple #[.int .i64 now, .int .i64 1]) ∧ Below w.heap.size w w' := by
  have B0 : Hid (Below w.heap.size w (((w.alloc (.cells #[.slice a1 l1 c1, .slice a2 l2 c2] 32)).alloc (.cells #[.int .i64 k, .int .i64 r, .int .i64 v, .int .i64 l] 44)).alloc (.cells #[.int .i64 lo, .int .i64 hi, .int .i64 st] 46))) := hide (bel3 _ _ _)
  have R := hide (hr.below (unhide B0))
  have KG : Hid (Blk (((w.alloc (.cells #[.slice a1 l1 c1, .slice a2 l2 c2] 32)).alloc (.cells #[.int .i64 k, .int .i64 r, .int .i64 v, .int .i64 l] 44)).alloc (.cells #[.int .i64 lo, .int .i64 hi, .int .i64 st] 46)) w.heap.size [.slice a1 l1 c1, .slice a2 l2 c2]) := hide blkAt3_0
  have KS : Hid (Blk (((w.alloc (.cells #[.slice a1 l1 c1, .slice a2 l2 c2] 32)).alloc (.cells #[.int .i64 k, .int .i64 r, .int .i64 v, .int .i64 l] 44)).alloc (.cells #[.int .i64 lo, .int .i64 hi, .int .i64 st] 46)) (w.heap.size + 1) [.int .i64 k, .int .i64 r, .int .i64 v, .int .i64 l]) := hide blkAt3_1
  have KL : Hid (Blk (((w.alloc (.cells #[.slice a1 l1 c1, .slice a2 l2 c2] 32)).alloc (.cells #[.int .i64 k, .int .i64 r, .int .i64 v, .int .i64 l] 44)).alloc (.cells #[.int .i64 lo, .int .i64 hi, .int .i64 st] 46)) (w.heap.size + 1 + 1) [.int .i64 lo, .int .i64 hi, .int .i64 st]) := hide blkAt3_2
  clear hr
  rcases five (inB m 0 2) (gaB xs ys) (stB k r l) (liB lo hi st) (inB now lo hi) with ⟨q1, hv⟩ | ⟨q1, q2, hv⟩ | ⟨q1, q2, q3, hv⟩ | ⟨q1, q2, q3, q4, hv⟩ | ⟨q1, q2, q3, q4, q5, hv⟩ | ⟨q1, q2, q3, q4, q5, hv⟩
  rotate_left 5
  · exact absurd (hb.symm.trans hv) (by simp)
  all_goals
    clear hv hb
    go_enter Try.func20, Try.ntmps20
    go_wp2_with (first
      | (go_at_call_of 34 (Value.int IntKind.i64 m); refine (l1In_is _ _ _ _ (by first | exact q1 | exact q5)).mono ?_; rintro e w' ⟨rfl, hw⟩; subst w')
      | (go_at_call 14; refine (specGainOk_is _ _ _ _ _ _ xs ys _ (unhide R) q2).mono ?_; rintro e w1 ⟨rfl, b1⟩; have BB := hide b1; clear b1; have s0 : w1.cell? ⟨w.heap.size + 1, 0, none⟩ = some (.int .i64 k) := ((unhide KS).below (unhide BB)).c 0 (by simp); have s1 : w1.cell? ⟨w.heap.size + 1, 1, none⟩ = some (.int .i64 r) := ((unhide KS).below (unhide BB)).c 1 (by simp); have s2 : w1.cell? ⟨w.heap.size + 1, 2, none⟩ = some (.int .i64 v) := ((unhide KS).below (unhide BB)).c 2 (by simp); have s3 : w1.cell? ⟨w.heap.size + 1, 3, none⟩ = some (.int .i64 l) := ((unhide KS).below (unhide BB)).c 3 (by simp); have t0 : w1.cell? ⟨w.heap.size + 1 + 1, 0, none⟩ = some (.int .i64 lo) := ((unhide KL).below (unhide BB)).c 0 (by simp); have t1 : w1.cell? ⟨w.heap.size + 1 + 1, 1, none⟩ = some (.int .i64 hi) := ((unhide KL).below (unhide BB)).c 1 (by simp); have t2 : w1.cell? ⟨w.heap.size + 1 + 1, 2, none⟩ = some (.int .i64 st) := ((unhide KL).below (unhide BB)).c 2 (by simp))
      | (go_at_call 48; refine (specStick_is _ _ _ _ _ q3).mono ?_; rintro e w2 ⟨rfl, b2⟩; have BB := hide ((unhide BB).trans (b2.mono (unhide BB).size)); clear b2; have t0 : w2.cell? ⟨w.heap.size + 1 + 1, 0, none⟩ = some (.int .i64 lo) := ((unhide KL).below (unhide BB)).c 0 (by simp); have t1 : w2.cell? ⟨w.heap.size + 1 + 1, 1, none⟩ = some (.int .i64 hi) := ((unhide KL).below (unhide BB)).c 1 (by simp); have t2 : w2.cell? ⟨w.heap.size + 1 + 1, 2, none⟩ = some (.int .i64 st) := ((unhide KL).below (unhide BB)).c 2 (by simp))
      | (go_at_call 49; refine (specLimits_is _ _ _ _ q4).mono ?_; rintro e w3 ⟨rfl, b3⟩; have BB := hide ((unhide BB).trans (b3.mono (unhide BB).size)); clear b3; have s0 : w3.cell? ⟨w.heap.size + 1, 0, none⟩ = some (.int .i64 k) := ((unhide KS).below (unhide BB)).c 0 (by simp); have s1 : w3.cell? ⟨w.heap.size + 1, 1, none⟩ = some (.int .i64 r) := ((unhide KS).below (unhide BB)).c 1 (by simp); have s2 : w3.cell? ⟨w.heap.size + 1, 2, none⟩ = some (.int .i64 v) := ((unhide KS).below (unhide BB)).c 2 (by simp); have s3 : w3.cell? ⟨w.heap.size + 1, 3, none⟩ = some (.int .i64 l) := ((unhide KS).below (unhide BB)).c 3 (by simp); have t0 : w3.cell? ⟨w.heap.size + 1 + 1, 0, none⟩ = some (.int .i64 lo) := ((unhide KL).below (unhide BB)).c 0 (by simp); have t1 : w3.cell? ⟨w.heap.size + 1 + 1, 1, none⟩ = some (.int .i64 hi) := ((unhide KL).below (unhide BB)).c 1 (by simp); have t2 : w3.cell? ⟨w.heap.size + 1 + 1, 2, none⟩ = some (.int .i64 st) := ((unhide KL).below (unhide BB)).c 2 (by simp); have gg0 : w3.cell? ⟨w.heap.size, 0, none⟩ = some (.slice a1 l1 c1) := ((unhide KG).below (unhide BB)).c 0 (by simp); have gg1 : w3.cell? ⟨w.heap.size, 1, none⟩ = some (.slice a2 l2 c2) := ((unhide KG).below (unhide BB)).c 1 (by simp))
      | (go_at_call_of 34 (Value.int IntKind.i64 now); refine (l1In_is _ _ _ _ (by first | exact q5 | exact q1)).mono ?_; rintro e w' ⟨rfl, hw⟩; subst w'))
    go_ret2
    first
      | exact ⟨rfl, unhide B0⟩
      | exact ⟨rfl, (unhide B0).trans ((unhide BB).mono (unhide B0).size)⟩

set_option maxRecDepth 20000 in
set_option maxHeartbeats 16000000 in
theorem specLaw_0 (a1 a2 : Option Addr) (l1 c1 l2 c2 : Nat) (xs ys : List Int) (k r v l lo hi st now : Int) (w : World) (hr : GaIn w a1 a2 l1 l2 xs ys) (hb : lwOk 0 xs ys k r l lo hi st now = true) (T C : Int) (hT : Hid (lwT 0 l lo hi st now (lwW 0 xs ys k r v) = T)) (hCd : Hid ((if lwT 0 l lo hi st now (lwW 0 xs ys k r v) = lwW 0 xs ys k r v then 0 else 2) = C)) :
    Calls Try.prog 20 #[.int .i64 0, .agg #[.slice a1 l1 c1, .slice a2 l2 c2], .agg #[.int .i64 k, .int .i64 r, .int .i64 v, .int .i64 l], .agg #[.int .i64 lo, .int .i64 hi, .int .i64 st], .int .i64 now] w fun e w' => e = .returned (.tuple #[.int .i64 T, .int .i64 C]) ∧ Below w.heap.size w w' := by
  have F := lwFit hb
  have hW := lwW_bd v F
  obtain ⟨X, hX⟩ : ∃ X, lwW 0 xs ys k r v = X := ⟨_, rfl⟩
  rw [hX] at hW
  have HW := hide hX
  have pb := gaMul_bd xs ys v F.sk
  have td := tdivBd pb.1 pb.2
  have k0 := F.sk.a0
  have k1 := F.sk.a1
  have r0 := F.sk.r0
  have r1 := F.sk.r1
  have e0 := F.li.a0
  have e1 := F.li.ab
  have e2 := F.li.b1
  have e3 := F.li.s0
  have e4 := F.li.s1
  have n0 := F.n0
  have n1 := F.n1
  clear hX F
  have B0 : Hid (Below w.heap.size w (((w.alloc (.cells #[.slice a1 l1 c1, .slice a2 l2 c2] 32)).alloc (.cells #[.int .i64 k, .int .i64 r, .int .i64 v, .int .i64 l] 44)).alloc (.cells #[.int .i64 lo, .int .i64 hi, .int .i64 st] 46))) := hide (bel3 _ _ _)
  have R := hide (hr.below (unhide B0))
  have KG : Hid (Blk (((w.alloc (.cells #[.slice a1 l1 c1, .slice a2 l2 c2] 32)).alloc (.cells #[.int .i64 k, .int .i64 r, .int .i64 v, .int .i64 l] 44)).alloc (.cells #[.int .i64 lo, .int .i64 hi, .int .i64 st] 46)) w.heap.size [.slice a1 l1 c1, .slice a2 l2 c2]) := hide blkAt3_0
  have KS : Hid (Blk (((w.alloc (.cells #[.slice a1 l1 c1, .slice a2 l2 c2] 32)).alloc (.cells #[.int .i64 k, .int .i64 r, .int .i64 v, .int .i64 l] 44)).alloc (.cells #[.int .i64 lo, .int .i64 hi, .int .i64 st] 46)) (w.heap.size + 1) [.int .i64 k, .int .i64 r, .int .i64 v, .int .i64 l]) := hide blkAt3_1
  have KL : Hid (Blk (((w.alloc (.cells #[.slice a1 l1 c1, .slice a2 l2 c2] 32)).alloc (.cells #[.int .i64 k, .int .i64 r, .int .i64 v, .int .i64 l] 44)).alloc (.cells #[.int .i64 lo, .int .i64 hi, .int .i64 st] 46)) (w.heap.size + 1 + 1) [.int .i64 lo, .int .i64 hi, .int .i64 st]) := hide blkAt3_2
  clear hr
  simp only [lwOk, Bool.and_eq_true] at hb
  obtain ⟨⟨⟨⟨q1, q2⟩, q3⟩, q4⟩, q5⟩ := hb
  go_enter Try.func20, Try.ntmps20
  go_wp2_with (first
      | (go_at_call_of 34 (Value.int IntKind.i64 0); refine (l1In_is _ _ _ _ (by first | exact q1 | exact q5)).mono ?_; rintro e w' ⟨rfl, hw⟩; subst w')
      | (go_at_call 14; refine (specGainOk_is _ _ _ _ _ _ xs ys _ (unhide R) q2).mono ?_; rintro e w1 ⟨rfl, b1⟩; have BB := hide b1; clear b1; have s0 : w1.cell? ⟨w.heap.size + 1, 0, none⟩ = some (.int .i64 k) := ((unhide KS).below (unhide BB)).c 0 (by simp); have s1 : w1.cell? ⟨w.heap.size + 1, 1, none⟩ = some (.int .i64 r) := ((unhide KS).below (unhide BB)).c 1 (by simp); have s2 : w1.cell? ⟨w.heap.size + 1, 2, none⟩ = some (.int .i64 v) := ((unhide KS).below (unhide BB)).c 2 (by simp); have s3 : w1.cell? ⟨w.heap.size + 1, 3, none⟩ = some (.int .i64 l) := ((unhide KS).below (unhide BB)).c 3 (by simp); have t0 : w1.cell? ⟨w.heap.size + 1 + 1, 0, none⟩ = some (.int .i64 lo) := ((unhide KL).below (unhide BB)).c 0 (by simp); have t1 : w1.cell? ⟨w.heap.size + 1 + 1, 1, none⟩ = some (.int .i64 hi) := ((unhide KL).below (unhide BB)).c 1 (by simp); have t2 : w1.cell? ⟨w.heap.size + 1 + 1, 2, none⟩ = some (.int .i64 st) := ((unhide KL).below (unhide BB)).c 2 (by simp))
      | (go_at_call 48; refine (specStick_is _ _ _ _ _ q3).mono ?_; rintro e w2 ⟨rfl, b2⟩; have BB := hide ((unhide BB).trans (b2.mono (unhide BB).size)); clear b2; have t0 : w2.cell? ⟨w.heap.size + 1 + 1, 0, none⟩ = some (.int .i64 lo) := ((unhide KL).below (unhide BB)).c 0 (by simp); have t1 : w2.cell? ⟨w.heap.size + 1 + 1, 1, none⟩ = some (.int .i64 hi) := ((unhide KL).below (unhide BB)).c 1 (by simp); have t2 : w2.cell? ⟨w.heap.size + 1 + 1, 2, none⟩ = some (.int .i64 st) := ((unhide KL).below (unhide BB)).c 2 (by simp))
      | (go_at_call 49; refine (specLimits_is _ _ _ _ q4).mono ?_; rintro e w3 ⟨rfl, b3⟩; have BB := hide ((unhide BB).trans (b3.mono (unhide BB).size)); clear b3; have s0 : w3.cell? ⟨w.heap.size + 1, 0, none⟩ = some (.int .i64 k) := ((unhide KS).below (unhide BB)).c 0 (by simp); have s1 : w3.cell? ⟨w.heap.size + 1, 1, none⟩ = some (.int .i64 r) := ((unhide KS).below (unhide BB)).c 1 (by simp); have s2 : w3.cell? ⟨w.heap.size + 1, 2, none⟩ = some (.int .i64 v) := ((unhide KS).below (unhide BB)).c 2 (by simp); have s3 : w3.cell? ⟨w.heap.size + 1, 3, none⟩ = some (.int .i64 l) := ((unhide KS).below (unhide BB)).c 3 (by simp); have t0 : w3.cell? ⟨w.heap.size + 1 + 1, 0, none⟩ = some (.int .i64 lo) := ((unhide KL).below (unhide BB)).c 0 (by simp); have t1 : w3.cell? ⟨w.heap.size + 1 + 1, 1, none⟩ = some (.int .i64 hi) := ((unhide KL).below (unhide BB)).c 1 (by simp); have t2 : w3.cell? ⟨w.heap.size + 1 + 1, 2, none⟩ = some (.int .i64 st) := ((unhide KL).below (unhide BB)).c 2 (by simp); have gg0 : w3.cell? ⟨w.heap.size, 0, none⟩ = some (.slice a1 l1 c1) := ((unhide KG).below (unhide BB)).c 0 (by simp); have gg1 : w3.cell? ⟨w.heap.size, 1, none⟩ = some (.slice a2 l2 c2) := ((unhide KG).below (unhide BB)).c 1 (by simp))
      | (go_at_call_of 34 (Value.int IntKind.i64 now); refine (l1In_is _ _ _ _ (by first | exact q5 | exact q1)).mono ?_; rintro e w' ⟨rfl, hw⟩; subst w'))
  obtain ⟨ι, f, _, hb, hall⟩ := belClass w3
  have HB := hide hb
  have HA := hide hall
  have B3 := hide ((unhide B0).trans ((unhide BB).mono (unhide B0).size))
  have RG := hide ((unhide R).below (unhide BB))
  have fs0 : ∀ x, (f x).cell? ⟨w.heap.size + 1, 0, none⟩ = some (.int .i64 k) := fun x => (((unhide KS).below (unhide BB)).below (hb x)).c 0 (by simp)
  have fs1 : ∀ x, (f x).cell? ⟨w.heap.size + 1, 1, none⟩ = some (.int .i64 r) := fun x => (((unhide KS).below (unhide BB)).below (hb x)).c 1 (by simp)
  have fs2 : ∀ x, (f x).cell? ⟨w.heap.size + 1, 2, none⟩ = some (.int .i64 v) := fun x => (((unhide KS).below (unhide BB)).below (hb x)).c 2 (by simp)
  have fg0 : ∀ x, (f x).cell? ⟨w.heap.size, 0, none⟩ = some (.slice a1 l1 c1) := fun x => (((unhide KG).below (unhide BB)).below (hb x)).c 0 (by simp)
  have fg1 : ∀ x, (f x).cell? ⟨w.heap.size, 1, none⟩ = some (.slice a2 l2 c2) := fun x => (((unhide KG).below (unhide BB)).below (hb x)).c 1 (by simp)
  clear hb hall s0 s1 s2 s3 t0 t1 t2 gg0 gg1
  refine wp_region_bel (unhide HA) (by kernel_rfl) (by kernel_rfl) ?_
  repeat (go_big_quiet_step ((go_at_call 18; exact belQ (unhide HB) (unhide HA) (specGainAt_any _ _ _ _ _ _ xs ys _ _ ((unhide RG).below (unhide HB _))))))
  refine wpQuiet_nil ?_
  rintro _ ⟨x, rfl⟩
  have HX2 : Hid ((gaAt xs ys v * (k - r)).tdiv 100 = X) := hide (by rw [← unhide HW]; simp [lwW])
  rw [unhide HX2]
  have BV := hide ((unhide BB).trans ((unhide HB x).mono (unhide BB).size))
  have B9 := hide ((unhide B3).trans ((unhide HB x).mono (unhide B3).size))
  clear fs0 fs1 fs2 fg0 fg1
  generalize f x = V at *
  clear HA HB RG B3 BB R HX2 pb td
  have s3 : V.cell? ⟨w.heap.size + 1, 3, none⟩ = some (.int .i64 l) := ((unhide KS).below (unhide BV)).c 3 (by simp)
  have t0 : V.cell? ⟨w.heap.size + 1 + 1, 0, none⟩ = some (.int .i64 lo) := ((unhide KL).below (unhide BV)).c 0 (by simp)
  have t1 : V.cell? ⟨w.heap.size + 1 + 1, 1, none⟩ = some (.int .i64 hi) := ((unhide KL).below (unhide BV)).c 1 (by simp)
  have t2 : V.cell? ⟨w.heap.size + 1 + 1, 2, none⟩ = some (.int .i64 st) := ((unhide KL).below (unhide BV)).c 2 (by simp)
  clear BV KG KS KL
  by_cases hA : 250 < l
  · have hC : ¬ l < -100 := by omega
    by_cases hB : now < X
    · skip
      have HL : Hid (lwH 0 l now X = now) := hide (lwH_now (by omega))
      go_wp2_with fail
      go_quiet ((go_at_call 50; first | exact Calls.quiet_of_same (l9Held_eq _ _ _ _) | exact quietSame (l9Held_eq _ _ _ _)))
      cases hq : (holdI (holdI now lo hi) (now - st) (now + st) != X) with
      | false =>
        have h0 : holdI (holdI now lo hi) (now - st) (now + st) = X := by simpa using hq
        have HT : Hid (lwT 0 l lo hi st now X = holdI (holdI now lo hi) (now - st) (now + st)) := hide (by unfold lwT; rw [unhide HL])
        have HC : Hid ((if lwT 0 l lo hi st now X = X then (0 : Int) else 2) = 0) := hide (by rw [unhide HT, if_pos h0])
        clear h0
        go_wp2_with fail
        go_ret2
        exact ⟨ret_ii (by rw [← unhide hT, unhide HW, unhide HT]) (by rw [← unhide hCd, unhide HW, unhide HC]), (unhide B9).trans (bel0d' _)⟩
      | true =>
        have h0 : ¬ holdI (holdI now lo hi) (now - st) (now + st) = X := by simpa using hq
        have HT : Hid (lwT 0 l lo hi st now X = holdI (holdI now lo hi) (now - st) (now + st)) := hide (by unfold lwT; rw [unhide HL])
        have HC : Hid ((if lwT 0 l lo hi st now X = X then (0 : Int) else 2) = 2) := hide (by rw [unhide HT, if_neg h0])
        clear h0
        go_wp2_with fail
        go_ret2
        exact ⟨ret_ii (by rw [← unhide hT, unhide HW, unhide HT]) (by rw [← unhide hCd, unhide HW, unhide HC]), (unhide B9).trans (bel0d' _)⟩
    · skip
      have HL : Hid (lwH 0 l now X = X) := hide (lwH_x (by omega))
      go_wp2_with fail
      go_quiet ((go_at_call 50; first | exact Calls.quiet_of_same (l9Held_eq _ _ _ _) | exact quietSame (l9Held_eq _ _ _ _)))
      cases hq : (holdI (holdI X lo hi) (now - st) (now + st) != X) with
      | false =>
        have h0 : holdI (holdI X lo hi) (now - st) (now + st) = X := by simpa using hq
        have HT : Hid (lwT 0 l lo hi st now X = holdI (holdI X lo hi) (now - st) (now + st)) := hide (by unfold lwT; rw [unhide HL])
        have HC : Hid ((if lwT 0 l lo hi st now X = X then (0 : Int) else 2) = 0) := hide (by rw [unhide HT, if_pos h0])
        clear h0
        go_wp2_with fail
        go_ret2
        exact ⟨ret_ii (by rw [← unhide hT, unhide HW, unhide HT]) (by rw [← unhide hCd, unhide HW, unhide HC]), (unhide B9).trans (bel0d' _)⟩
      | true =>
        have h0 : ¬ holdI (holdI X lo hi) (now - st) (now + st) = X := by simpa using hq
        have HT : Hid (lwT 0 l lo hi st now X = holdI (holdI X lo hi) (now - st) (now + st)) := hide (by unfold lwT; rw [unhide HL])
        have HC : Hid ((if lwT 0 l lo hi st now X = X then (0 : Int) else 2) = 2) := hide (by rw [unhide HT, if_neg h0])
        clear h0
        go_wp2_with fail
        go_ret2
        exact ⟨ret_ii (by rw [← unhide hT, unhide HW, unhide HT]) (by rw [← unhide hCd, unhide HW, unhide HC]), (unhide B9).trans (bel0d' _)⟩
  · by_cases hC : l < -100
    · by_cases hD : X < now
      · skip
        have HL : Hid (lwH 0 l now X = now) := hide (lwH_now (by omega))
        go_wp2_with fail
        go_quiet ((go_at_call 50; first | exact Calls.quiet_of_same (l9Held_eq _ _ _ _) | exact quietSame (l9Held_eq _ _ _ _)))
        cases hq : (holdI (holdI now lo hi) (now - st) (now + st) != X) with
        | false =>
          have h0 : holdI (holdI now lo hi) (now - st) (now + st) = X := by simpa using hq
          have HT : Hid (lwT 0 l lo hi st now X = holdI (holdI now lo hi) (now - st) (now + st)) := hide (by unfold lwT; rw [unhide HL])
          have HC : Hid ((if lwT 0 l lo hi st now X = X then (0 : Int) else 2) = 0) := hide (by rw [unhide HT, if_pos h0])
          clear h0
          go_wp2_with fail
          go_ret2
          exact ⟨ret_ii (by rw [← unhide hT, unhide HW, unhide HT]) (by rw [← unhide hCd, unhide HW, unhide HC]), (unhide B9).trans (bel0d' _)⟩
        | true =>
          have h0 : ¬ holdI (holdI now lo hi) (now - st) (now + st) = X := by simpa using hq
          have HT : Hid (lwT 0 l lo hi st now X = holdI (holdI now lo hi) (now - st) (now + st)) := hide (by unfold lwT; rw [unhide HL])
          have HC : Hid ((if lwT 0 l lo hi st now X = X then (0 : Int) else 2) = 2) := hide (by rw [unhide HT, if_neg h0])
          clear h0
          go_wp2_with fail
          go_ret2
          exact ⟨ret_ii (by rw [← unhide hT, unhide HW, unhide HT]) (by rw [← unhide hCd, unhide HW, unhide HC]), (unhide B9).trans (bel0d' _)⟩
      · skip
        have HL : Hid (lwH 0 l now X = X) := hide (lwH_x (by omega))
        go_wp2_with fail
        go_quiet ((go_at_call 50; first | exact Calls.quiet_of_same (l9Held_eq _ _ _ _) | exact quietSame (l9Held_eq _ _ _ _)))
        cases hq : (holdI (holdI X lo hi) (now - st) (now + st) != X) with
        | false =>
          have h0 : holdI (holdI X lo hi) (now - st) (now + st) = X := by simpa using hq
          have HT : Hid (lwT 0 l lo hi st now X = holdI (holdI X lo hi) (now - st) (now + st)) := hide (by unfold lwT; rw [unhide HL])
          have HC : Hid ((if lwT 0 l lo hi st now X = X then (0 : Int) else 2) = 0) := hide (by rw [unhide HT, if_pos h0])
          clear h0
          go_wp2_with fail
          go_ret2
          exact ⟨ret_ii (by rw [← unhide hT, unhide HW, unhide HT]) (by rw [← unhide hCd, unhide HW, unhide HC]), (unhide B9).trans (bel0d' _)⟩
        | true =>
          have h0 : ¬ holdI (holdI X lo hi) (now - st) (now + st) = X := by simpa using hq
          have HT : Hid (lwT 0 l lo hi st now X = holdI (holdI X lo hi) (now - st) (now + st)) := hide (by unfold lwT; rw [unhide HL])
          have HC : Hid ((if lwT 0 l lo hi st now X = X then (0 : Int) else 2) = 2) := hide (by rw [unhide HT, if_neg h0])
          clear h0
          go_wp2_with fail
          go_ret2
          exact ⟨ret_ii (by rw [← unhide hT, unhide HW, unhide HT]) (by rw [← unhide hCd, unhide HW, unhide HC]), (unhide B9).trans (bel0d' _)⟩
    · skip
      have HL : Hid (lwH 0 l now X = X) := hide (lwH_x (by omega))
      go_wp2_with fail
      go_quiet ((go_at_call 50; first | exact Calls.quiet_of_same (l9Held_eq _ _ _ _) | exact quietSame (l9Held_eq _ _ _ _)))
      cases hq : (holdI (holdI X lo hi) (now - st) (now + st) != X) with
      | false =>
        have h0 : holdI (holdI X lo hi) (now - st) (now + st) = X := by simpa using hq
        have HT : Hid (lwT 0 l lo hi st now X = holdI (holdI X lo hi) (now - st) (now + st)) := hide (by unfold lwT; rw [unhide HL])
        have HC : Hid ((if lwT 0 l lo hi st now X = X then (0 : Int) else 2) = 0) := hide (by rw [unhide HT, if_pos h0])
        clear h0
        go_wp2_with fail
        go_ret2
        exact ⟨ret_ii (by rw [← unhide hT, unhide HW, unhide HT]) (by rw [← unhide hCd, unhide HW, unhide HC]), (unhide B9).trans (bel0d' _)⟩
      | true =>
        have h0 : ¬ holdI (holdI X lo hi) (now - st) (now + st) = X := by simpa using hq
        have HT : Hid (lwT 0 l lo hi st now X = holdI (holdI X lo hi) (now - st) (now + st)) := hide (by unfold lwT; rw [unhide HL])
        have HC : Hid ((if lwT 0 l lo hi st now X = X then (0 : Int) else 2) = 2) := hide (by rw [unhide HT, if_neg h0])
        clear h0
        go_wp2_with fail
        go_ret2
        exact ⟨ret_ii (by rw [← unhide hT, unhide HW, unhide HT]) (by rw [← unhide hCd, unhide HW, unhide HC]), (unhide B9).trans (bel0d' _)⟩

set_option maxRecDepth 20000 in
set_option maxHeartbeats 16000000 in
theorem specLaw_1 (a1 a2 : Option Addr) (l1 c1 l2 c2 : Nat) (xs ys : List Int) (k r v l lo hi st now : Int) (w : World) (hr : GaIn w a1 a2 l1 l2 xs ys) (hb : lwOk 1 xs ys k r l lo hi st now = true) (T C : Int) (hT : Hid (lwT 1 l lo hi st now (lwW 1 xs ys k r v) = T)) (hCd : Hid ((if lwT 1 l lo hi st now (lwW 1 xs ys k r v) = lwW 1 xs ys k r v then 0 else 2) = C)) :
    Calls Try.prog 20 #[.int .i64 1, .agg #[.slice a1 l1 c1, .slice a2 l2 c2], .agg #[.int .i64 k, .int .i64 r, .int .i64 v, .int .i64 l], .agg #[.int .i64 lo, .int .i64 hi, .int .i64 st], .int .i64 now] w fun e w' => e = .returned (.tuple #[.int .i64 T, .int .i64 C]) ∧ Below w.heap.size w w' := by
  have F := lwFit hb
  have hW := lwW_bd v F
  obtain ⟨X, hX⟩ : ∃ X, lwW 1 xs ys k r v = X := ⟨_, rfl⟩
  rw [hX] at hW
  have HW := hide hX
  have pb := gaMul_bd xs ys v F.sk
  have td := tdivBd pb.1 pb.2
  have k0 := F.sk.a0
  have k1 := F.sk.a1
  have r0 := F.sk.r0
  have r1 := F.sk.r1
  have e0 := F.li.a0
  have e1 := F.li.ab
  have e2 := F.li.b1
  have e3 := F.li.s0
  have e4 := F.li.s1
  have n0 := F.n0
  have n1 := F.n1
  clear hX F
  have B0 : Hid (Below w.heap.size w (((w.alloc (.cells #[.slice a1 l1 c1, .slice a2 l2 c2] 32)).alloc (.cells #[.int .i64 k, .int .i64 r, .int .i64 v, .int .i64 l] 44)).alloc (.cells #[.int .i64 lo, .int .i64 hi, .int .i64 st] 46))) := hide (bel3 _ _ _)
  have R := hide (hr.below (unhide B0))
  have KG : Hid (Blk (((w.alloc (.cells #[.slice a1 l1 c1, .slice a2 l2 c2] 32)).alloc (.cells #[.int .i64 k, .int .i64 r, .int .i64 v, .int .i64 l] 44)).alloc (.cells #[.int .i64 lo, .int .i64 hi, .int .i64 st] 46)) w.heap.size [.slice a1 l1 c1, .slice a2 l2 c2]) := hide blkAt3_0
  have KS : Hid (Blk (((w.alloc (.cells #[.slice a1 l1 c1, .slice a2 l2 c2] 32)).alloc (.cells #[.int .i64 k, .int .i64 r, .int .i64 v, .int .i64 l] 44)).alloc (.cells #[.int .i64 lo, .int .i64 hi, .int .i64 st] 46)) (w.heap.size + 1) [.int .i64 k, .int .i64 r, .int .i64 v, .int .i64 l]) := hide blkAt3_1
  have KL : Hid (Blk (((w.alloc (.cells #[.slice a1 l1 c1, .slice a2 l2 c2] 32)).alloc (.cells #[.int .i64 k, .int .i64 r, .int .i64 v, .int .i64 l] 44)).alloc (.cells #[.int .i64 lo, .int .i64 hi, .int .i64 st] 46)) (w.heap.size + 1 + 1) [.int .i64 lo, .int .i64 hi, .int .i64 st]) := hide blkAt3_2
  clear hr
  simp only [lwOk, Bool.and_eq_true] at hb
  obtain ⟨⟨⟨⟨q1, q2⟩, q3⟩, q4⟩, q5⟩ := hb
  go_enter Try.func20, Try.ntmps20
  go_wp2_with (first
      | (go_at_call_of 34 (Value.int IntKind.i64 1); refine (l1In_is _ _ _ _ (by first | exact q1 | exact q5)).mono ?_; rintro e w' ⟨rfl, hw⟩; subst w')
      | (go_at_call 14; refine (specGainOk_is _ _ _ _ _ _ xs ys _ (unhide R) q2).mono ?_; rintro e w1 ⟨rfl, b1⟩; have BB := hide b1; clear b1; have s0 : w1.cell? ⟨w.heap.size + 1, 0, none⟩ = some (.int .i64 k) := ((unhide KS).below (unhide BB)).c 0 (by simp); have s1 : w1.cell? ⟨w.heap.size + 1, 1, none⟩ = some (.int .i64 r) := ((unhide KS).below (unhide BB)).c 1 (by simp); have s2 : w1.cell? ⟨w.heap.size + 1, 2, none⟩ = some (.int .i64 v) := ((unhide KS).below (unhide BB)).c 2 (by simp); have s3 : w1.cell? ⟨w.heap.size + 1, 3, none⟩ = some (.int .i64 l) := ((unhide KS).below (unhide BB)).c 3 (by simp); have t0 : w1.cell? ⟨w.heap.size + 1 + 1, 0, none⟩ = some (.int .i64 lo) := ((unhide KL).below (unhide BB)).c 0 (by simp); have t1 : w1.cell? ⟨w.heap.size + 1 + 1, 1, none⟩ = some (.int .i64 hi) := ((unhide KL).below (unhide BB)).c 1 (by simp); have t2 : w1.cell? ⟨w.heap.size + 1 + 1, 2, none⟩ = some (.int .i64 st) := ((unhide KL).below (unhide BB)).c 2 (by simp))
      | (go_at_call 48; refine (specStick_is _ _ _ _ _ q3).mono ?_; rintro e w2 ⟨rfl, b2⟩; have BB := hide ((unhide BB).trans (b2.mono (unhide BB).size)); clear b2; have t0 : w2.cell? ⟨w.heap.size + 1 + 1, 0, none⟩ = some (.int .i64 lo) := ((unhide KL).below (unhide BB)).c 0 (by simp); have t1 : w2.cell? ⟨w.heap.size + 1 + 1, 1, none⟩ = some (.int .i64 hi) := ((unhide KL).below (unhide BB)).c 1 (by simp); have t2 : w2.cell? ⟨w.heap.size + 1 + 1, 2, none⟩ = some (.int .i64 st) := ((unhide KL).below (unhide BB)).c 2 (by simp))
      | (go_at_call 49; refine (specLimits_is _ _ _ _ q4).mono ?_; rintro e w3 ⟨rfl, b3⟩; have BB := hide ((unhide BB).trans (b3.mono (unhide BB).size)); clear b3; have s0 : w3.cell? ⟨w.heap.size + 1, 0, none⟩ = some (.int .i64 k) := ((unhide KS).below (unhide BB)).c 0 (by simp); have s1 : w3.cell? ⟨w.heap.size + 1, 1, none⟩ = some (.int .i64 r) := ((unhide KS).below (unhide BB)).c 1 (by simp); have s2 : w3.cell? ⟨w.heap.size + 1, 2, none⟩ = some (.int .i64 v) := ((unhide KS).below (unhide BB)).c 2 (by simp); have s3 : w3.cell? ⟨w.heap.size + 1, 3, none⟩ = some (.int .i64 l) := ((unhide KS).below (unhide BB)).c 3 (by simp); have t0 : w3.cell? ⟨w.heap.size + 1 + 1, 0, none⟩ = some (.int .i64 lo) := ((unhide KL).below (unhide BB)).c 0 (by simp); have t1 : w3.cell? ⟨w.heap.size + 1 + 1, 1, none⟩ = some (.int .i64 hi) := ((unhide KL).below (unhide BB)).c 1 (by simp); have t2 : w3.cell? ⟨w.heap.size + 1 + 1, 2, none⟩ = some (.int .i64 st) := ((unhide KL).below (unhide BB)).c 2 (by simp); have gg0 : w3.cell? ⟨w.heap.size, 0, none⟩ = some (.slice a1 l1 c1) := ((unhide KG).below (unhide BB)).c 0 (by simp); have gg1 : w3.cell? ⟨w.heap.size, 1, none⟩ = some (.slice a2 l2 c2) := ((unhide KG).below (unhide BB)).c 1 (by simp))
      | (go_at_call_of 34 (Value.int IntKind.i64 now); refine (l1In_is _ _ _ _ (by first | exact q5 | exact q1)).mono ?_; rintro e w' ⟨rfl, hw⟩; subst w'))
  obtain ⟨ι, f, _, hb, hall⟩ := belClass w3
  have HB := hide hb
  have HA := hide hall
  have B3 := hide ((unhide B0).trans ((unhide BB).mono (unhide B0).size))
  have RG := hide ((unhide R).below (unhide BB))
  have fs0 : ∀ x, (f x).cell? ⟨w.heap.size + 1, 0, none⟩ = some (.int .i64 k) := fun x => (((unhide KS).below (unhide BB)).below (hb x)).c 0 (by simp)
  have fs1 : ∀ x, (f x).cell? ⟨w.heap.size + 1, 1, none⟩ = some (.int .i64 r) := fun x => (((unhide KS).below (unhide BB)).below (hb x)).c 1 (by simp)
  have fs2 : ∀ x, (f x).cell? ⟨w.heap.size + 1, 2, none⟩ = some (.int .i64 v) := fun x => (((unhide KS).below (unhide BB)).below (hb x)).c 2 (by simp)
  have fg0 : ∀ x, (f x).cell? ⟨w.heap.size, 0, none⟩ = some (.slice a1 l1 c1) := fun x => (((unhide KG).below (unhide BB)).below (hb x)).c 0 (by simp)
  have fg1 : ∀ x, (f x).cell? ⟨w.heap.size, 1, none⟩ = some (.slice a2 l2 c2) := fun x => (((unhide KG).below (unhide BB)).below (hb x)).c 1 (by simp)
  clear hb hall s0 s1 s2 s3 t0 t1 t2 gg0 gg1
  refine wp_region_bel (unhide HA) (by kernel_rfl) (by kernel_rfl) ?_
  repeat (go_big_quiet_step ((go_at_call 18; exact belQ (unhide HB) (unhide HA) (specGainAt_any _ _ _ _ _ _ xs ys _ _ ((unhide RG).below (unhide HB _))))))
  refine wpQuiet_nil ?_
  rintro _ ⟨x, rfl⟩
  have HX2 : Hid ((gaAt xs ys v * (k - r)).tdiv 100 = X) := hide (by rw [← unhide HW]; simp [lwW])
  rw [unhide HX2]
  have BV := hide ((unhide BB).trans ((unhide HB x).mono (unhide BB).size))
  have B9 := hide ((unhide B3).trans ((unhide HB x).mono (unhide B3).size))
  clear fs0 fs1 fs2 fg0 fg1
  generalize f x = V at *
  clear HA HB RG B3 BB R HX2 pb td
  have s3 : V.cell? ⟨w.heap.size + 1, 3, none⟩ = some (.int .i64 l) := ((unhide KS).below (unhide BV)).c 3 (by simp)
  have t0 : V.cell? ⟨w.heap.size + 1 + 1, 0, none⟩ = some (.int .i64 lo) := ((unhide KL).below (unhide BV)).c 0 (by simp)
  have t1 : V.cell? ⟨w.heap.size + 1 + 1, 1, none⟩ = some (.int .i64 hi) := ((unhide KL).below (unhide BV)).c 1 (by simp)
  have t2 : V.cell? ⟨w.heap.size + 1 + 1, 2, none⟩ = some (.int .i64 st) := ((unhide KL).below (unhide BV)).c 2 (by simp)
  clear BV KG KS KL
  have HL : Hid (lwH 1 l now X = X) := hide (lwH_x (by omega))
  go_wp2_with fail
  go_quiet ((go_at_call 50; first | exact Calls.quiet_of_same (l9Held_eq _ _ _ _) | exact quietSame (l9Held_eq _ _ _ _)))
  cases hq : (holdI (holdI X lo hi) (now - st) (now + st) != X) with
  | false =>
    have h0 : holdI (holdI X lo hi) (now - st) (now + st) = X := by simpa using hq
    have HT : Hid (lwT 1 l lo hi st now X = holdI (holdI X lo hi) (now - st) (now + st)) := hide (by unfold lwT; rw [unhide HL])
    have HC : Hid ((if lwT 1 l lo hi st now X = X then (0 : Int) else 2) = 0) := hide (by rw [unhide HT, if_pos h0])
    clear h0
    go_wp2_with fail
    go_ret2
    exact ⟨ret_ii (by rw [← unhide hT, unhide HW, unhide HT]) (by rw [← unhide hCd, unhide HW, unhide HC]), (unhide B9).trans (bel0d' _)⟩
  | true =>
    have h0 : ¬ holdI (holdI X lo hi) (now - st) (now + st) = X := by simpa using hq
    have HT : Hid (lwT 1 l lo hi st now X = holdI (holdI X lo hi) (now - st) (now + st)) := hide (by unfold lwT; rw [unhide HL])
    have HC : Hid ((if lwT 1 l lo hi st now X = X then (0 : Int) else 2) = 2) := hide (by rw [unhide HT, if_neg h0])
    clear h0
    go_wp2_with fail
    go_ret2
    exact ⟨ret_ii (by rw [← unhide hT, unhide HW, unhide HT]) (by rw [← unhide hCd, unhide HW, unhide HC]), (unhide B9).trans (bel0d' _)⟩

set_option maxRecDepth 20000 in
set_option maxHeartbeats 16000000 in
theorem specLaw_2 (a1 a2 : Option Addr) (l1 c1 l2 c2 : Nat) (xs ys : List Int) (k r v l lo hi st now : Int) (w : World) (hr : GaIn w a1 a2 l1 l2 xs ys) (hb : lwOk 2 xs ys k r l lo hi st now = true) (T C : Int) (hT : Hid (lwT 2 l lo hi st now (lwW 2 xs ys k r v) = T)) (hCd : Hid ((if lwT 2 l lo hi st now (lwW 2 xs ys k r v) = lwW 2 xs ys k r v then 0 else 2) = C)) :
    Calls Try.prog 20 #[.int .i64 2, .agg #[.slice a1 l1 c1, .slice a2 l2 c2], .agg #[.int .i64 k, .int .i64 r, .int .i64 v, .int .i64 l], .agg #[.int .i64 lo, .int .i64 hi, .int .i64 st], .int .i64 now] w fun e w' => e = .returned (.tuple #[.int .i64 T, .int .i64 C]) ∧ Below w.heap.size w w' := by
  have F := lwFit hb
  have hW := lwW_bd v F
  obtain ⟨X, hX⟩ : ∃ X, lwW 2 xs ys k r v = X := ⟨_, rfl⟩
  rw [hX] at hW
  have HW := hide hX
  have pb := gaMul_bd xs ys v F.sk
  have td := tdivBd pb.1 pb.2
  have k0 := F.sk.a0
  have k1 := F.sk.a1
  have r0 := F.sk.r0
  have r1 := F.sk.r1
  have e0 := F.li.a0
  have e1 := F.li.ab
  have e2 := F.li.b1
  have e3 := F.li.s0
  have e4 := F.li.s1
  have n0 := F.n0
  have n1 := F.n1
  clear hX F
  have B0 : Hid (Below w.heap.size w (((w.alloc (.cells #[.slice a1 l1 c1, .slice a2 l2 c2] 32)).alloc (.cells #[.int .i64 k, .int .i64 r, .int .i64 v, .int .i64 l] 44)).alloc (.cells #[.int .i64 lo, .int .i64 hi, .int .i64 st] 46))) := hide (bel3 _ _ _)
  have R := hide (hr.below (unhide B0))
  have KG : Hid (Blk (((w.alloc (.cells #[.slice a1 l1 c1, .slice a2 l2 c2] 32)).alloc (.cells #[.int .i64 k, .int .i64 r, .int .i64 v, .int .i64 l] 44)).alloc (.cells #[.int .i64 lo, .int .i64 hi, .int .i64 st] 46)) w.heap.size [.slice a1 l1 c1, .slice a2 l2 c2]) := hide blkAt3_0
  have KS : Hid (Blk (((w.alloc (.cells #[.slice a1 l1 c1, .slice a2 l2 c2] 32)).alloc (.cells #[.int .i64 k, .int .i64 r, .int .i64 v, .int .i64 l] 44)).alloc (.cells #[.int .i64 lo, .int .i64 hi, .int .i64 st] 46)) (w.heap.size + 1) [.int .i64 k, .int .i64 r, .int .i64 v, .int .i64 l]) := hide blkAt3_1
  have KL : Hid (Blk (((w.alloc (.cells #[.slice a1 l1 c1, .slice a2 l2 c2] 32)).alloc (.cells #[.int .i64 k, .int .i64 r, .int .i64 v, .int .i64 l] 44)).alloc (.cells #[.int .i64 lo, .int .i64 hi, .int .i64 st] 46)) (w.heap.size + 1 + 1) [.int .i64 lo, .int .i64 hi, .int .i64 st]) := hide blkAt3_2
  clear hr
  simp only [lwOk, Bool.and_eq_true] at hb
  obtain ⟨⟨⟨⟨q1, q2⟩, q3⟩, q4⟩, q5⟩ := hb
  go_enter Try.func20, Try.ntmps20
  go_wp2_with (first
      | (go_at_call_of 34 (Value.int IntKind.i64 2); refine (l1In_is _ _ _ _ (by first | exact q1 | exact q5)).mono ?_; rintro e w' ⟨rfl, hw⟩; subst w')
      | (go_at_call 14; refine (specGainOk_is _ _ _ _ _ _ xs ys _ (unhide R) q2).mono ?_; rintro e w1 ⟨rfl, b1⟩; have BB := hide b1; clear b1; have s0 : w1.cell? ⟨w.heap.size + 1, 0, none⟩ = some (.int .i64 k) := ((unhide KS).below (unhide BB)).c 0 (by simp); have s1 : w1.cell? ⟨w.heap.size + 1, 1, none⟩ = some (.int .i64 r) := ((unhide KS).below (unhide BB)).c 1 (by simp); have s2 : w1.cell? ⟨w.heap.size + 1, 2, none⟩ = some (.int .i64 v) := ((unhide KS).below (unhide BB)).c 2 (by simp); have s3 : w1.cell? ⟨w.heap.size + 1, 3, none⟩ = some (.int .i64 l) := ((unhide KS).below (unhide BB)).c 3 (by simp); have t0 : w1.cell? ⟨w.heap.size + 1 + 1, 0, none⟩ = some (.int .i64 lo) := ((unhide KL).below (unhide BB)).c 0 (by simp); have t1 : w1.cell? ⟨w.heap.size + 1 + 1, 1, none⟩ = some (.int .i64 hi) := ((unhide KL).below (unhide BB)).c 1 (by simp); have t2 : w1.cell? ⟨w.heap.size + 1 + 1, 2, none⟩ = some (.int .i64 st) := ((unhide KL).below (unhide BB)).c 2 (by simp))
      | (go_at_call 48; refine (specStick_is _ _ _ _ _ q3).mono ?_; rintro e w2 ⟨rfl, b2⟩; have BB := hide ((unhide BB).trans (b2.mono (unhide BB).size)); clear b2; have t0 : w2.cell? ⟨w.heap.size + 1 + 1, 0, none⟩ = some (.int .i64 lo) := ((unhide KL).below (unhide BB)).c 0 (by simp); have t1 : w2.cell? ⟨w.heap.size + 1 + 1, 1, none⟩ = some (.int .i64 hi) := ((unhide KL).below (unhide BB)).c 1 (by simp); have t2 : w2.cell? ⟨w.heap.size + 1 + 1, 2, none⟩ = some (.int .i64 st) := ((unhide KL).below (unhide BB)).c 2 (by simp))
      | (go_at_call 49; refine (specLimits_is _ _ _ _ q4).mono ?_; rintro e w3 ⟨rfl, b3⟩; have BB := hide ((unhide BB).trans (b3.mono (unhide BB).size)); clear b3; have s0 : w3.cell? ⟨w.heap.size + 1, 0, none⟩ = some (.int .i64 k) := ((unhide KS).below (unhide BB)).c 0 (by simp); have s1 : w3.cell? ⟨w.heap.size + 1, 1, none⟩ = some (.int .i64 r) := ((unhide KS).below (unhide BB)).c 1 (by simp); have s2 : w3.cell? ⟨w.heap.size + 1, 2, none⟩ = some (.int .i64 v) := ((unhide KS).below (unhide BB)).c 2 (by simp); have s3 : w3.cell? ⟨w.heap.size + 1, 3, none⟩ = some (.int .i64 l) := ((unhide KS).below (unhide BB)).c 3 (by simp); have t0 : w3.cell? ⟨w.heap.size + 1 + 1, 0, none⟩ = some (.int .i64 lo) := ((unhide KL).below (unhide BB)).c 0 (by simp); have t1 : w3.cell? ⟨w.heap.size + 1 + 1, 1, none⟩ = some (.int .i64 hi) := ((unhide KL).below (unhide BB)).c 1 (by simp); have t2 : w3.cell? ⟨w.heap.size + 1 + 1, 2, none⟩ = some (.int .i64 st) := ((unhide KL).below (unhide BB)).c 2 (by simp); have gg0 : w3.cell? ⟨w.heap.size, 0, none⟩ = some (.slice a1 l1 c1) := ((unhide KG).below (unhide BB)).c 0 (by simp); have gg1 : w3.cell? ⟨w.heap.size, 1, none⟩ = some (.slice a2 l2 c2) := ((unhide KG).below (unhide BB)).c 1 (by simp))
      | (go_at_call_of 34 (Value.int IntKind.i64 now); refine (l1In_is _ _ _ _ (by first | exact q5 | exact q1)).mono ?_; rintro e w' ⟨rfl, hw⟩; subst w'))
  have HX2 : Hid (10 * k = X) := hide (by rw [← unhide HW]; simp [lwW])
  rw [unhide HX2]
  have BV : Hid (Below (((w.alloc (.cells #[.slice a1 l1 c1, .slice a2 l2 c2] 32)).alloc (.cells #[.int .i64 k, .int .i64 r, .int .i64 v, .int .i64 l] 44)).alloc (.cells #[.int .i64 lo, .int .i64 hi, .int .i64 st] 46)).heap.size (((w.alloc (.cells #[.slice a1 l1 c1, .slice a2 l2 c2] 32)).alloc (.cells #[.int .i64 k, .int .i64 r, .int .i64 v, .int .i64 l] 44)).alloc (.cells #[.int .i64 lo, .int .i64 hi, .int .i64 st] 46)) w3) := hide (unhide BB)
  have B9 := hide ((unhide B0).trans ((unhide BV).mono (unhide B0).size))
  clear BB KG KS KL R HX2
  have HL : Hid (lwH 2 l now X = X) := hide (lwH_x (by omega))
  go_wp2_with fail
  go_quiet ((go_at_call 50; first | exact Calls.quiet_of_same (l9Held_eq _ _ _ _) | exact quietSame (l9Held_eq _ _ _ _)))
  cases hq : (holdI (holdI X lo hi) (now - st) (now + st) != X) with
  | false =>
    have h0 : holdI (holdI X lo hi) (now - st) (now + st) = X := by simpa using hq
    have HT : Hid (lwT 2 l lo hi st now X = holdI (holdI X lo hi) (now - st) (now + st)) := hide (by unfold lwT; rw [unhide HL])
    have HC : Hid ((if lwT 2 l lo hi st now X = X then (0 : Int) else 2) = 0) := hide (by rw [unhide HT, if_pos h0])
    clear h0
    go_wp2_with fail
    go_ret2
    exact ⟨ret_ii (by rw [← unhide hT, unhide HW, unhide HT]) (by rw [← unhide hCd, unhide HW, unhide HC]), (unhide B9).trans (bel0d' _)⟩
  | true =>
    have h0 : ¬ holdI (holdI X lo hi) (now - st) (now + st) = X := by simpa using hq
    have HT : Hid (lwT 2 l lo hi st now X = holdI (holdI X lo hi) (now - st) (now + st)) := hide (by unfold lwT; rw [unhide HL])
    have HC : Hid ((if lwT 2 l lo hi st now X = X then (0 : Int) else 2) = 2) := hide (by rw [unhide HT, if_neg h0])
    clear h0
    go_wp2_with fail
    go_ret2
    exact ⟨ret_ii (by rw [← unhide hT, unhide HW, unhide HT]) (by rw [← unhide hCd, unhide HW, unhide HC]), (unhide B9).trans (bel0d' _)⟩

theorem specLaw_any (m : Int) (a1 a2 : Option Addr) (l1 c1 l2 c2 : Nat) (xs ys : List Int) (k r v l lo hi st now : Int) (w : World) (hr : GaIn w a1 a2 l1 l2 xs ys) :
    Calls Try.prog 20 #[.int .i64 m, .agg #[.slice a1 l1 c1, .slice a2 l2 c2], .agg #[.int .i64 k, .int .i64 r, .int .i64 v, .int .i64 l], .agg #[.int .i64 lo, .int .i64 hi, .int .i64 st], .int .i64 now] w fun e w' => e = .returned (.tuple #[.int .i64 (lwTold m xs ys k r v l lo hi st now), .int .i64 (lwCode m xs ys k r v l lo hi st now)]) ∧ Below w.heap.size w w' := by
  cases hb : lwOk m xs ys k r l lo hi st now with
  | false => rw [(lw_no v hb).1, (lw_no v hb).2]; exact specLaw_bad m a1 a2 l1 c1 l2 c2 xs ys k r v l lo hi st now w hr hb
  | true =>
    rw [(lw_yes v hb).1, (lw_yes v hb).2]
    have f := lwFit hb
    have m0 := f.m0
    have m1 := f.m1
    have hm : m = 0 ∨ m = 1 ∨ m = 2 := by omega
    rcases hm with rfl | rfl | rfl
    · exact specLaw_0 a1 a2 l1 c1 l2 c2 xs ys k r v l lo hi st now w hr hb _ _ (hide rfl) (hide rfl)
    · exact specLaw_1 a1 a2 l1 c1 l2 c2 xs ys k r v l lo hi st now w hr hb _ _ (hide rfl) (hide rfl)
    · exact specLaw_2 a1 a2 l1 c1 l2 c2 xs ys k r v l lo hi st now w hr hb _ _ (hide rfl) (hide rfl)

end Go.Proofs.Ytbaocifpifbldar
