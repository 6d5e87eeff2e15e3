/-
  What Law answers in the program: the plain number and code at every argument whose lists have no less room than length; nothing that was there is written.
-/
import Derived.Test.YtbaocifpifbldadLwCalls
import Derived.LoopN
namespace Go.Proofs.Ytbaocifpifbldad
open Go.RowKit

theorem lwOk_su (m : Int) (xs ys : List Int) (k r l lo hi st now : Int) : lwOk m xs ys k r l lo hi st now = (inB m 0 2 && suOk xs ys k r l lo hi st now) := by
  unfold lwOk suOk; cases inB m 0 2 <;> simp

set_option maxRecDepth 20000 in
set_option maxHeartbeats 8000000 in
theorem implLaw_bad (m : Int) (a1 a2 : Option Addr) (l1 c1 l2 c2 : Nat) (xs ys : List Int) (k r v l lo hi st now : Int) (w : World) (hr : GaIn w a1 a2 l1 l2 xs ys) (hb : lwOk m xs ys k r l lo hi st now = false) :
    Calls Try.prog 21 #[.int .i64 m, .agg #[.slice a1 l1 c1, .slice a2 l2 c2], .agg #[.int .i64 k, .int .i64 r, .int .i64 v, .int .i64 l], .agg #[.int .i64 lo, .int .i64 hi, .int .i64 st], .int .i64 now] w fun e w' => e = .returned (.tuple #[.int .i64 now, .int .i64 1]) ∧ Below w.heap.size w w' := by
  have B0 : Hid (Below w.heap.size w ((((w.alloc (.cells #[.slice a1 l1 c1, .slice a2 l2 c2] 46)).alloc (.cells #[.int .i64 k, .int .i64 r, .int .i64 v, .int .i64 l] 52)).alloc (.cells #[.int .i64 lo, .int .i64 hi, .int .i64 st] 48)).alloc (.cells #[.slice a1 l1 c1, .slice a2 l2 c2, .int .i64 k, .int .i64 r, .int .i64 v, .int .i64 l, .int .i64 lo, .int .i64 hi, .int .i64 st, .int .i64 now] 95))) := hide ((bel3 _ _ _).alloc (by simp; omega) _)
  have R := hide (hr.below (unhide B0))
  have KB : Hid (Blk ((((w.alloc (.cells #[.slice a1 l1 c1, .slice a2 l2 c2] 46)).alloc (.cells #[.int .i64 k, .int .i64 r, .int .i64 v, .int .i64 l] 52)).alloc (.cells #[.int .i64 lo, .int .i64 hi, .int .i64 st] 48)).alloc (.cells #[.slice a1 l1 c1, .slice a2 l2 c2, .int .i64 k, .int .i64 r, .int .i64 v, .int .i64 l, .int .i64 lo, .int .i64 hi, .int .i64 st, .int .i64 now] 95)) (w.heap.size + 1 + 1 + 1) [.slice a1 l1 c1, .slice a2 l2 c2, .int .i64 k, .int .i64 r, .int .i64 v, .int .i64 l, .int .i64 lo, .int .i64 hi, .int .i64 st, .int .i64 now]) := hide (Blk.next _ _ (by simp))
  clear hr
  rw [lwOk_su] at hb
  rcases two (inB m 0 2) (suOk xs ys k r l lo hi st now) with ⟨q1, hv⟩ | ⟨q1, q2, hv⟩ | ⟨q1, q2, hv⟩
  rotate_left 2
  · exact absurd (hb.symm.trans hv) (by simp)
  all_goals
    clear hv hb
    go_enter Try.func21, Try.ntmps21
    go_wp2_with (first
      | (go_at_call_of 33 (Value.int IntKind.i64 m); refine (within_is _ _ _ _ q1).mono ?_; rintro e w' ⟨rfl, hw⟩; subst w')
      | (go_at_call 50; refine (surfOk_is _ _ _ _ _ _ xs ys k r v l lo hi st now _ (unhide R) q2).mono ?_; rintro e w1 ⟨rfl, b1⟩; have BB := hide b1; clear b1; have s0 : w1.cell? ⟨w.heap.size + 1 + 1 + 1, 0, none⟩ = some (.slice a1 l1 c1) := ((unhide KB).below (unhide BB)).c 0 (by simp); have s1 : w1.cell? ⟨w.heap.size + 1 + 1 + 1, 1, none⟩ = some (.slice a2 l2 c2) := ((unhide KB).below (unhide BB)).c 1 (by simp); have s2 : w1.cell? ⟨w.heap.size + 1 + 1 + 1, 2, none⟩ = some (.int .i64 k) := ((unhide KB).below (unhide BB)).c 2 (by simp); have s3 : w1.cell? ⟨w.heap.size + 1 + 1 + 1, 3, none⟩ = some (.int .i64 r) := ((unhide KB).below (unhide BB)).c 3 (by simp); have s4 : w1.cell? ⟨w.heap.size + 1 + 1 + 1, 4, none⟩ = some (.int .i64 v) := ((unhide KB).below (unhide BB)).c 4 (by simp); have s5 : w1.cell? ⟨w.heap.size + 1 + 1 + 1, 5, none⟩ = some (.int .i64 l) := ((unhide KB).below (unhide BB)).c 5 (by simp); have s6 : w1.cell? ⟨w.heap.size + 1 + 1 + 1, 6, none⟩ = some (.int .i64 lo) := ((unhide KB).below (unhide BB)).c 6 (by simp); have s7 : w1.cell? ⟨w.heap.size + 1 + 1 + 1, 7, none⟩ = some (.int .i64 hi) := ((unhide KB).below (unhide BB)).c 7 (by simp); have s8 : w1.cell? ⟨w.heap.size + 1 + 1 + 1, 8, none⟩ = some (.int .i64 st) := ((unhide KB).below (unhide BB)).c 8 (by simp); have s9 : w1.cell? ⟨w.heap.size + 1 + 1 + 1, 9, none⟩ = some (.int .i64 now) := ((unhide KB).below (unhide BB)).c 9 (by simp)))
    go_ret2
    first
      | exact ⟨rfl, unhide B0⟩
      | exact ⟨rfl, (unhide B0).trans ((unhide BB).mono (unhide B0).size)⟩

set_option maxRecDepth 20000 in
set_option maxHeartbeats 16000000 in
theorem implLaw_0 (a1 a2 : Option Addr) (l1 c1 l2 c2 : Nat) (xs ys : List Int) (k r v l lo hi st now : Int) (w : World) (hr : GaIn w a1 a2 l1 l2 xs ys) (hc1 : l1 ≤ c1) (hc2 : l2 ≤ c2) (hb : lwOk 0 xs ys k r l lo hi st now = true) (T C : Int) (hT : Hid (lwT 0 l lo hi st now (lwW 0 xs ys k r v) = T)) (hCd : Hid ((if lwT 0 l lo hi st now (lwW 0 xs ys k r v) = lwW 0 xs ys k r v then 0 else 2) = C)) :
    Calls Try.prog 21 #[.int .i64 0, .agg #[.slice a1 l1 c1, .slice a2 l2 c2], .agg #[.int .i64 k, .int .i64 r, .int .i64 v, .int .i64 l], .agg #[.int .i64 lo, .int .i64 hi, .int .i64 st], .int .i64 now] w fun e w' => e = .returned (.tuple #[.int .i64 T, .int .i64 C]) ∧ Below w.heap.size w w' := by
  have fit := lwFit hb
  have fs := fit.sk
  have fl := fit.li
  have hn0 := fit.n0
  have hn1 := fit.n1
  obtain ⟨X, hX⟩ : ∃ X, (gaAt xs ys v * (k - r)).tdiv 100 = X := ⟨_, rfl⟩
  have HW : Hid (lwW 0 xs ys k r v = X) := hide (by rw [← hX]; simp [lwW])
  have HX := hide hX
  clear hX
  have hab : lo ≤ hi := fl.ab
  have hab2 : now - st ≤ now + st := by have := fl.s0; omega
  have HL : Hid (lwT 0 l lo hi st now X = holdI (holdI (lwH 0 l now X) lo hi) (now - st) (now + st)) := hide (rfl)
  have B0 : Hid (Below w.heap.size w ((((w.alloc (.cells #[.slice a1 l1 c1, .slice a2 l2 c2] 46)).alloc (.cells #[.int .i64 k, .int .i64 r, .int .i64 v, .int .i64 l] 52)).alloc (.cells #[.int .i64 lo, .int .i64 hi, .int .i64 st] 48)).alloc (.cells #[.slice a1 l1 c1, .slice a2 l2 c2, .int .i64 k, .int .i64 r, .int .i64 v, .int .i64 l, .int .i64 lo, .int .i64 hi, .int .i64 st, .int .i64 now] 95))) := hide ((bel3 _ _ _).alloc (by simp; omega) _)
  have R := hide (hr.below (unhide B0))
  have KB : Hid (Blk ((((w.alloc (.cells #[.slice a1 l1 c1, .slice a2 l2 c2] 46)).alloc (.cells #[.int .i64 k, .int .i64 r, .int .i64 v, .int .i64 l] 52)).alloc (.cells #[.int .i64 lo, .int .i64 hi, .int .i64 st] 48)).alloc (.cells #[.slice a1 l1 c1, .slice a2 l2 c2, .int .i64 k, .int .i64 r, .int .i64 v, .int .i64 l, .int .i64 lo, .int .i64 hi, .int .i64 st, .int .i64 now] 95)) (w.heap.size + 1 + 1 + 1) [.slice a1 l1 c1, .slice a2 l2 c2, .int .i64 k, .int .i64 r, .int .i64 v, .int .i64 l, .int .i64 lo, .int .i64 hi, .int .i64 st, .int .i64 now]) := hide (Blk.next _ _ (by simp))
  clear hr
  rw [lwOk_su] at hb
  simp only [Bool.and_eq_true] at hb
  obtain ⟨q1, q2⟩ := hb
  go_enter Try.func21, Try.ntmps21
  go_wp2_with (first
      | (go_at_call_of 33 (Value.int IntKind.i64 0); refine (within_is _ _ _ _ q1).mono ?_; rintro e w' ⟨rfl, hw⟩; subst w')
      | (go_at_call 50; refine (surfOk_is _ _ _ _ _ _ xs ys k r v l lo hi st now _ (unhide R) q2).mono ?_; rintro e w1 ⟨rfl, b1⟩; have BB := hide b1; clear b1; have s0 : w1.cell? ⟨w.heap.size + 1 + 1 + 1, 0, none⟩ = some (.slice a1 l1 c1) := ((unhide KB).below (unhide BB)).c 0 (by simp); have s1 : w1.cell? ⟨w.heap.size + 1 + 1 + 1, 1, none⟩ = some (.slice a2 l2 c2) := ((unhide KB).below (unhide BB)).c 1 (by simp); have s2 : w1.cell? ⟨w.heap.size + 1 + 1 + 1, 2, none⟩ = some (.int .i64 k) := ((unhide KB).below (unhide BB)).c 2 (by simp); have s3 : w1.cell? ⟨w.heap.size + 1 + 1 + 1, 3, none⟩ = some (.int .i64 r) := ((unhide KB).below (unhide BB)).c 3 (by simp); have s4 : w1.cell? ⟨w.heap.size + 1 + 1 + 1, 4, none⟩ = some (.int .i64 v) := ((unhide KB).below (unhide BB)).c 4 (by simp); have s5 : w1.cell? ⟨w.heap.size + 1 + 1 + 1, 5, none⟩ = some (.int .i64 l) := ((unhide KB).below (unhide BB)).c 5 (by simp); have s6 : w1.cell? ⟨w.heap.size + 1 + 1 + 1, 6, none⟩ = some (.int .i64 lo) := ((unhide KB).below (unhide BB)).c 6 (by simp); have s7 : w1.cell? ⟨w.heap.size + 1 + 1 + 1, 7, none⟩ = some (.int .i64 hi) := ((unhide KB).below (unhide BB)).c 7 (by simp); have s8 : w1.cell? ⟨w.heap.size + 1 + 1 + 1, 8, none⟩ = some (.int .i64 st) := ((unhide KB).below (unhide BB)).c 8 (by simp); have s9 : w1.cell? ⟨w.heap.size + 1 + 1 + 1, 9, none⟩ = some (.int .i64 now) := ((unhide KB).below (unhide BB)).c 9 (by simp))
      | (go_at_call 51; refine (law0_own _ _ _ _ _ _ xs ys k r v l lo hi st now _ ((unhide R).below (unhide BB)) hc1 hc2 fs fl hn0 hn1).mono ?_; rintro e w2 ⟨g, c, G, g1, h1, g2, h2, rfl, P, b2⟩; have P := hide P; have c0 := (unhide P).c0; have c1 := (unhide P).c1; have c2 := (unhide P).c2; have B2 := hide ((unhide BB).trans (b2.mono (unhide BB).size)); clear b2))
  rw [unhide HX]
  clear s0 s1 s2 s3 s4 s5 s6 s7 s8 s9
  refine wp_loop_rounds 4 ?_
  rw [rounds_succ]
  go_wp2_with (first
      | (go_at_call_of 77 (Value.pointer (some ⟨g1, 0, none⟩)); refine (hold_any _ lo hi g1 h1 _ hab (unhide P).k1 (unhide P).k2).mono ?_; rintro e w' ⟨rfl, hw⟩; subst w')
      | (go_at_call_of 77 (Value.pointer (some ⟨g2, 0, none⟩)); refine (hold_any _ (now - st) (now + st) g2 h2 _ hab2 (unhide P).k3 (unhide P).k4).mono ?_; rintro e w' ⟨rfl, hw⟩; subst w')
      | (go_at_call 99; refine (load1_any _ _ _ _ _ _ k r v l lo hi st now _ G _ (unhide P).k0).mono ?_; rintro e w' ⟨rfl, hw⟩; subst w'))
  rw [rounds_succ]
  go_wp2_with (first
      | (go_at_call_of 77 (Value.pointer (some ⟨g1, 0, none⟩)); refine (hold_any _ lo hi g1 h1 _ hab (unhide P).k1 (unhide P).k2).mono ?_; rintro e w' ⟨rfl, hw⟩; subst w')
      | (go_at_call_of 77 (Value.pointer (some ⟨g2, 0, none⟩)); refine (hold_any _ (now - st) (now + st) g2 h2 _ hab2 (unhide P).k3 (unhide P).k4).mono ?_; rintro e w' ⟨rfl, hw⟩; subst w')
      | (go_at_call 99; refine (load1_any _ _ _ _ _ _ k r v l lo hi st now _ G _ (unhide P).k0).mono ?_; rintro e w' ⟨rfl, hw⟩; subst w'))
  rw [rounds_succ]
  go_wp2_with (first
      | (go_at_call_of 77 (Value.pointer (some ⟨g1, 0, none⟩)); refine (hold_any _ lo hi g1 h1 _ hab (unhide P).k1 (unhide P).k2).mono ?_; rintro e w' ⟨rfl, hw⟩; subst w')
      | (go_at_call_of 77 (Value.pointer (some ⟨g2, 0, none⟩)); refine (hold_any _ (now - st) (now + st) g2 h2 _ hab2 (unhide P).k3 (unhide P).k4).mono ?_; rintro e w' ⟨rfl, hw⟩; subst w')
      | (go_at_call 99; refine (load1_any _ _ _ _ _ _ k r v l lo hi st now _ G _ (unhide P).k0).mono ?_; rintro e w' ⟨rfl, hw⟩; subst w'))
  have B9 := hide ((unhide B0).trans ((unhide B2).mono (unhide B0).size))
  clear c0 c1 c2 P
  cases hq : (holdI (holdI (lwH 0 l now X) lo hi) (now - st) (now + st) != X) with
  | false =>
    have h0 : holdI (holdI (lwH 0 l now X) lo hi) (now - st) (now + st) = X := by simpa using hq
    have HC : Hid ((if lwT 0 l lo hi st now X = X then (0 : Int) else 2) = 0) := hide (by rw [unhide HL, if_pos h0])
    clear h0
    rw [rounds_succ]
    go_wp2_with fail
    go_ret2
    exact ⟨ret_ii (by rw [← unhide hT, unhide HW, unhide HL]) (by rw [← unhide hCd, unhide HW, unhide HC]), unhide B9⟩
  | true =>
    have h0 : ¬ holdI (holdI (lwH 0 l now X) lo hi) (now - st) (now + st) = X := by simpa using hq
    have HC : Hid ((if lwT 0 l lo hi st now X = X then (0 : Int) else 2) = 2) := hide (by rw [unhide HL, if_neg h0])
    clear h0
    rw [rounds_succ]
    go_wp2_with fail
    go_ret2
    exact ⟨ret_ii (by rw [← unhide hT, unhide HW, unhide HL]) (by rw [← unhide hCd, unhide HW, unhide HC]), unhide B9⟩

set_option maxRecDepth 20000 in
set_option maxHeartbeats 16000000 in
theorem implLaw_1 (a1 a2 : Option Addr) (l1 c1 l2 c2 : Nat) (xs ys : List Int) (k r v l lo hi st now : Int) (w : World) (hr : GaIn w a1 a2 l1 l2 xs ys) (hc1 : l1 ≤ c1) (hc2 : l2 ≤ c2) (hb : lwOk 1 xs ys k r l lo hi st now = true) (T C : Int) (hT : Hid (lwT 1 l lo hi st now (lwW 1 xs ys k r v) = T)) (hCd : Hid ((if lwT 1 l lo hi st now (lwW 1 xs ys k r v) = lwW 1 xs ys k r v then 0 else 2) = C)) :
    Calls Try.prog 21 #[.int .i64 1, .agg #[.slice a1 l1 c1, .slice a2 l2 c2], .agg #[.int .i64 k, .int .i64 r, .int .i64 v, .int .i64 l], .agg #[.int .i64 lo, .int .i64 hi, .int .i64 st], .int .i64 now] w fun e w' => e = .returned (.tuple #[.int .i64 T, .int .i64 C]) ∧ Below w.heap.size w w' := by
  have fit := lwFit hb
  have fs := fit.sk
  have fl := fit.li
  have hn0 := fit.n0
  have hn1 := fit.n1
  obtain ⟨X, hX⟩ : ∃ X, (gaAt xs ys v * (k - r)).tdiv 100 = X := ⟨_, rfl⟩
  have HW : Hid (lwW 1 xs ys k r v = X) := hide (by rw [← hX]; simp [lwW])
  have HX := hide hX
  clear hX
  have hab : lo ≤ hi := fl.ab
  have hab2 : now - st ≤ now + st := by have := fl.s0; omega
  have HL : Hid (lwT 1 l lo hi st now X = holdI (holdI X lo hi) (now - st) (now + st)) := hide (by unfold lwT; rw [lwH_x (by omega)])
  have B0 : Hid (Below w.heap.size w ((((w.alloc (.cells #[.slice a1 l1 c1, .slice a2 l2 c2] 46)).alloc (.cells #[.int .i64 k, .int .i64 r, .int .i64 v, .int .i64 l] 52)).alloc (.cells #[.int .i64 lo, .int .i64 hi, .int .i64 st] 48)).alloc (.cells #[.slice a1 l1 c1, .slice a2 l2 c2, .int .i64 k, .int .i64 r, .int .i64 v, .int .i64 l, .int .i64 lo, .int .i64 hi, .int .i64 st, .int .i64 now] 95))) := hide ((bel3 _ _ _).alloc (by simp; omega) _)
  have R := hide (hr.below (unhide B0))
  have KB : Hid (Blk ((((w.alloc (.cells #[.slice a1 l1 c1, .slice a2 l2 c2] 46)).alloc (.cells #[.int .i64 k, .int .i64 r, .int .i64 v, .int .i64 l] 52)).alloc (.cells #[.int .i64 lo, .int .i64 hi, .int .i64 st] 48)).alloc (.cells #[.slice a1 l1 c1, .slice a2 l2 c2, .int .i64 k, .int .i64 r, .int .i64 v, .int .i64 l, .int .i64 lo, .int .i64 hi, .int .i64 st, .int .i64 now] 95)) (w.heap.size + 1 + 1 + 1) [.slice a1 l1 c1, .slice a2 l2 c2, .int .i64 k, .int .i64 r, .int .i64 v, .int .i64 l, .int .i64 lo, .int .i64 hi, .int .i64 st, .int .i64 now]) := hide (Blk.next _ _ (by simp))
  clear hr
  rw [lwOk_su] at hb
  simp only [Bool.and_eq_true] at hb
  obtain ⟨q1, q2⟩ := hb
  go_enter Try.func21, Try.ntmps21
  go_wp2_with (first
      | (go_at_call_of 33 (Value.int IntKind.i64 1); refine (within_is _ _ _ _ q1).mono ?_; rintro e w' ⟨rfl, hw⟩; subst w')
      | (go_at_call 50; refine (surfOk_is _ _ _ _ _ _ xs ys k r v l lo hi st now _ (unhide R) q2).mono ?_; rintro e w1 ⟨rfl, b1⟩; have BB := hide b1; clear b1; have s0 : w1.cell? ⟨w.heap.size + 1 + 1 + 1, 0, none⟩ = some (.slice a1 l1 c1) := ((unhide KB).below (unhide BB)).c 0 (by simp); have s1 : w1.cell? ⟨w.heap.size + 1 + 1 + 1, 1, none⟩ = some (.slice a2 l2 c2) := ((unhide KB).below (unhide BB)).c 1 (by simp); have s2 : w1.cell? ⟨w.heap.size + 1 + 1 + 1, 2, none⟩ = some (.int .i64 k) := ((unhide KB).below (unhide BB)).c 2 (by simp); have s3 : w1.cell? ⟨w.heap.size + 1 + 1 + 1, 3, none⟩ = some (.int .i64 r) := ((unhide KB).below (unhide BB)).c 3 (by simp); have s4 : w1.cell? ⟨w.heap.size + 1 + 1 + 1, 4, none⟩ = some (.int .i64 v) := ((unhide KB).below (unhide BB)).c 4 (by simp); have s5 : w1.cell? ⟨w.heap.size + 1 + 1 + 1, 5, none⟩ = some (.int .i64 l) := ((unhide KB).below (unhide BB)).c 5 (by simp); have s6 : w1.cell? ⟨w.heap.size + 1 + 1 + 1, 6, none⟩ = some (.int .i64 lo) := ((unhide KB).below (unhide BB)).c 6 (by simp); have s7 : w1.cell? ⟨w.heap.size + 1 + 1 + 1, 7, none⟩ = some (.int .i64 hi) := ((unhide KB).below (unhide BB)).c 7 (by simp); have s8 : w1.cell? ⟨w.heap.size + 1 + 1 + 1, 8, none⟩ = some (.int .i64 st) := ((unhide KB).below (unhide BB)).c 8 (by simp); have s9 : w1.cell? ⟨w.heap.size + 1 + 1 + 1, 9, none⟩ = some (.int .i64 now) := ((unhide KB).below (unhide BB)).c 9 (by simp))
      | (go_at_call 51; refine (law1_own _ _ _ _ _ _ xs ys k r v l lo hi st now _ ((unhide R).below (unhide BB)) hc1 hc2 fs fl hn0 hn1).mono ?_; rintro e w2 ⟨g, g1, h1, g2, h2, rfl, ⟨base, P⟩, b2⟩; have P := hide P; have c0 := (unhide P).c.c 0 (by simp); have c1 := (unhide P).c.c 1 (by simp); simp only [List.getElem_cons_zero, List.getElem_cons_succ] at c0 c1; have B2 := hide ((unhide BB).trans (b2.mono (unhide BB).size)); clear b2))
  rw [unhide HX]
  clear s0 s1 s2 s3 s4 s5 s6 s7 s8 s9
  refine wp_loop_rounds 3 ?_
  rw [rounds_succ]
  go_wp2_with (first
      | (go_at_call_of 77 (Value.pointer (some ⟨g1, 0, none⟩)); refine (hold_any _ lo hi g1 h1 _ hab (unhide P).k1 (unhide P).k2).mono ?_; rintro e w' ⟨rfl, hw⟩; subst w')
      | (go_at_call_of 77 (Value.pointer (some ⟨g2, 0, none⟩)); refine (hold_any _ (now - st) (now + st) g2 h2 _ hab2 (unhide P).k3 (unhide P).k4).mono ?_; rintro e w' ⟨rfl, hw⟩; subst w'))
  rw [rounds_succ]
  go_wp2_with (first
      | (go_at_call_of 77 (Value.pointer (some ⟨g1, 0, none⟩)); refine (hold_any _ lo hi g1 h1 _ hab (unhide P).k1 (unhide P).k2).mono ?_; rintro e w' ⟨rfl, hw⟩; subst w')
      | (go_at_call_of 77 (Value.pointer (some ⟨g2, 0, none⟩)); refine (hold_any _ (now - st) (now + st) g2 h2 _ hab2 (unhide P).k3 (unhide P).k4).mono ?_; rintro e w' ⟨rfl, hw⟩; subst w'))
  have B9 := hide ((unhide B0).trans ((unhide B2).mono (unhide B0).size))
  clear c0 c1 P
  cases hq : (holdI (holdI X lo hi) (now - st) (now + st) != X) with
  | false =>
    have h0 : holdI (holdI X lo hi) (now - st) (now + st) = X := by simpa using hq
    have HC : Hid ((if lwT 1 l lo hi st now X = X then (0 : Int) else 2) = 0) := hide (by rw [unhide HL, if_pos h0])
    clear h0
    rw [rounds_succ]
    go_wp2_with fail
    go_ret2
    exact ⟨ret_ii (by rw [← unhide hT, unhide HW, unhide HL]) (by rw [← unhide hCd, unhide HW, unhide HC]), unhide B9⟩
  | true =>
    have h0 : ¬ holdI (holdI X lo hi) (now - st) (now + st) = X := by simpa using hq
    have HC : Hid ((if lwT 1 l lo hi st now X = X then (0 : Int) else 2) = 2) := hide (by rw [unhide HL, if_neg h0])
    clear h0
    rw [rounds_succ]
    go_wp2_with fail
    go_ret2
    exact ⟨ret_ii (by rw [← unhide hT, unhide HW, unhide HL]) (by rw [← unhide hCd, unhide HW, unhide HC]), unhide B9⟩

set_option maxRecDepth 20000 in
set_option maxHeartbeats 16000000 in
theorem implLaw_2 (a1 a2 : Option Addr) (l1 c1 l2 c2 : Nat) (xs ys : List Int) (k r v l lo hi st now : Int) (w : World) (hr : GaIn w a1 a2 l1 l2 xs ys) (hb : lwOk 2 xs ys k r l lo hi st now = true) (T C : Int) (hT : Hid (lwT 2 l lo hi st now (lwW 2 xs ys k r v) = T)) (hCd : Hid ((if lwT 2 l lo hi st now (lwW 2 xs ys k r v) = lwW 2 xs ys k r v then 0 else 2) = C)) :
    Calls Try.prog 21 #[.int .i64 2, .agg #[.slice a1 l1 c1, .slice a2 l2 c2], .agg #[.int .i64 k, .int .i64 r, .int .i64 v, .int .i64 l], .agg #[.int .i64 lo, .int .i64 hi, .int .i64 st], .int .i64 now] w fun e w' => e = .returned (.tuple #[.int .i64 T, .int .i64 C]) ∧ Below w.heap.size w w' := by
  have fit := lwFit hb
  have fs := fit.sk
  have fl := fit.li
  have hn0 := fit.n0
  have hn1 := fit.n1
  obtain ⟨X, hX⟩ : ∃ X, 10 * k = X := ⟨_, rfl⟩
  have HW : Hid (lwW 2 xs ys k r v = X) := hide (by rw [← hX]; simp [lwW])
  have HX := hide hX
  clear hX
  have hab : lo ≤ hi := fl.ab
  have hab2 : now - st ≤ now + st := by have := fl.s0; omega
  have HL : Hid (lwT 2 l lo hi st now X = holdI (holdI X lo hi) (now - st) (now + st)) := hide (by unfold lwT; rw [lwH_x (by omega)])
  have B0 : Hid (Below w.heap.size w ((((w.alloc (.cells #[.slice a1 l1 c1, .slice a2 l2 c2] 46)).alloc (.cells #[.int .i64 k, .int .i64 r, .int .i64 v, .int .i64 l] 52)).alloc (.cells #[.int .i64 lo, .int .i64 hi, .int .i64 st] 48)).alloc (.cells #[.slice a1 l1 c1, .slice a2 l2 c2, .int .i64 k, .int .i64 r, .int .i64 v, .int .i64 l, .int .i64 lo, .int .i64 hi, .int .i64 st, .int .i64 now] 95))) := hide ((bel3 _ _ _).alloc (by simp; omega) _)
  have R := hide (hr.below (unhide B0))
  have KB : Hid (Blk ((((w.alloc (.cells #[.slice a1 l1 c1, .slice a2 l2 c2] 46)).alloc (.cells #[.int .i64 k, .int .i64 r, .int .i64 v, .int .i64 l] 52)).alloc (.cells #[.int .i64 lo, .int .i64 hi, .int .i64 st] 48)).alloc (.cells #[.slice a1 l1 c1, .slice a2 l2 c2, .int .i64 k, .int .i64 r, .int .i64 v, .int .i64 l, .int .i64 lo, .int .i64 hi, .int .i64 st, .int .i64 now] 95)) (w.heap.size + 1 + 1 + 1) [.slice a1 l1 c1, .slice a2 l2 c2, .int .i64 k, .int .i64 r, .int .i64 v, .int .i64 l, .int .i64 lo, .int .i64 hi, .int .i64 st, .int .i64 now]) := hide (Blk.next _ _ (by simp))
  clear hr
  rw [lwOk_su] at hb
  simp only [Bool.and_eq_true] at hb
  obtain ⟨q1, q2⟩ := hb
  go_enter Try.func21, Try.ntmps21
  go_wp2_with (first
      | (go_at_call_of 33 (Value.int IntKind.i64 2); refine (within_is _ _ _ _ q1).mono ?_; rintro e w' ⟨rfl, hw⟩; subst w')
      | (go_at_call 50; refine (surfOk_is _ _ _ _ _ _ xs ys k r v l lo hi st now _ (unhide R) q2).mono ?_; rintro e w1 ⟨rfl, b1⟩; have BB := hide b1; clear b1; have s0 : w1.cell? ⟨w.heap.size + 1 + 1 + 1, 0, none⟩ = some (.slice a1 l1 c1) := ((unhide KB).below (unhide BB)).c 0 (by simp); have s1 : w1.cell? ⟨w.heap.size + 1 + 1 + 1, 1, none⟩ = some (.slice a2 l2 c2) := ((unhide KB).below (unhide BB)).c 1 (by simp); have s2 : w1.cell? ⟨w.heap.size + 1 + 1 + 1, 2, none⟩ = some (.int .i64 k) := ((unhide KB).below (unhide BB)).c 2 (by simp); have s3 : w1.cell? ⟨w.heap.size + 1 + 1 + 1, 3, none⟩ = some (.int .i64 r) := ((unhide KB).below (unhide BB)).c 3 (by simp); have s4 : w1.cell? ⟨w.heap.size + 1 + 1 + 1, 4, none⟩ = some (.int .i64 v) := ((unhide KB).below (unhide BB)).c 4 (by simp); have s5 : w1.cell? ⟨w.heap.size + 1 + 1 + 1, 5, none⟩ = some (.int .i64 l) := ((unhide KB).below (unhide BB)).c 5 (by simp); have s6 : w1.cell? ⟨w.heap.size + 1 + 1 + 1, 6, none⟩ = some (.int .i64 lo) := ((unhide KB).below (unhide BB)).c 6 (by simp); have s7 : w1.cell? ⟨w.heap.size + 1 + 1 + 1, 7, none⟩ = some (.int .i64 hi) := ((unhide KB).below (unhide BB)).c 7 (by simp); have s8 : w1.cell? ⟨w.heap.size + 1 + 1 + 1, 8, none⟩ = some (.int .i64 st) := ((unhide KB).below (unhide BB)).c 8 (by simp); have s9 : w1.cell? ⟨w.heap.size + 1 + 1 + 1, 9, none⟩ = some (.int .i64 now) := ((unhide KB).below (unhide BB)).c 9 (by simp))
      | (go_at_call 51; refine (law2_own _ _ _ _ _ _ k r v l lo hi st now _ fs fl hn0 hn1).mono ?_; rintro e w2 ⟨g, g1, h1, g2, h2, rfl, ⟨base, P⟩, b2⟩; have P := hide P; have c0 := (unhide P).c.c 0 (by simp); have c1 := (unhide P).c.c 1 (by simp); simp only [List.getElem_cons_zero, List.getElem_cons_succ] at c0 c1; have B2 := hide ((unhide BB).trans (b2.mono (unhide BB).size)); clear b2))
  rw [unhide HX]
  clear s0 s1 s2 s3 s4 s5 s6 s7 s8 s9
  refine wp_loop_rounds 3 ?_
  rw [rounds_succ]
  go_wp2_with (first
      | (go_at_call_of 77 (Value.pointer (some ⟨g1, 0, none⟩)); refine (hold_any _ lo hi g1 h1 _ hab (unhide P).k1 (unhide P).k2).mono ?_; rintro e w' ⟨rfl, hw⟩; subst w')
      | (go_at_call_of 77 (Value.pointer (some ⟨g2, 0, none⟩)); refine (hold_any _ (now - st) (now + st) g2 h2 _ hab2 (unhide P).k3 (unhide P).k4).mono ?_; rintro e w' ⟨rfl, hw⟩; subst w'))
  rw [rounds_succ]
  go_wp2_with (first
      | (go_at_call_of 77 (Value.pointer (some ⟨g1, 0, none⟩)); refine (hold_any _ lo hi g1 h1 _ hab (unhide P).k1 (unhide P).k2).mono ?_; rintro e w' ⟨rfl, hw⟩; subst w')
      | (go_at_call_of 77 (Value.pointer (some ⟨g2, 0, none⟩)); refine (hold_any _ (now - st) (now + st) g2 h2 _ hab2 (unhide P).k3 (unhide P).k4).mono ?_; rintro e w' ⟨rfl, hw⟩; subst w'))
  have B9 := hide ((unhide B0).trans ((unhide B2).mono (unhide B0).size))
  clear c0 c1 P
  cases hq : (holdI (holdI X lo hi) (now - st) (now + st) != X) with
  | false =>
    have h0 : holdI (holdI X lo hi) (now - st) (now + st) = X := by simpa using hq
    have HC : Hid ((if lwT 2 l lo hi st now X = X then (0 : Int) else 2) = 0) := hide (by rw [unhide HL, if_pos h0])
    clear h0
    rw [rounds_succ]
    go_wp2_with fail
    go_ret2
    exact ⟨ret_ii (by rw [← unhide hT, unhide HW, unhide HL]) (by rw [← unhide hCd, unhide HW, unhide HC]), unhide B9⟩
  | true =>
    have h0 : ¬ holdI (holdI X lo hi) (now - st) (now + st) = X := by simpa using hq
    have HC : Hid ((if lwT 2 l lo hi st now X = X then (0 : Int) else 2) = 2) := hide (by rw [unhide HL, if_neg h0])
    clear h0
    rw [rounds_succ]
    go_wp2_with fail
    go_ret2
    exact ⟨ret_ii (by rw [← unhide hT, unhide HW, unhide HL]) (by rw [← unhide hCd, unhide HW, unhide HC]), unhide B9⟩

theorem implLaw_any (m : Int) (a1 a2 : Option Addr) (l1 c1 l2 c2 : Nat) (xs ys : List Int) (k r v l lo hi st now : Int) (w : World) (hr : GaIn w a1 a2 l1 l2 xs ys) (hc1 : l1 ≤ c1) (hc2 : l2 ≤ c2) :
    Calls Try.prog 21 #[.int .i64 m, .agg #[.slice a1 l1 c1, .slice a2 l2 c2], .agg #[.int .i64 k, .int .i64 r, .int .i64 v, .int .i64 l], .agg #[.int .i64 lo, .int .i64 hi, .int .i64 st], .int .i64 now] w fun e w' => e = .returned (.tuple #[.int .i64 (lwTold m xs ys k r v l lo hi st now), .int .i64 (lwCode m xs ys k r v l lo hi st now)]) ∧ Below w.heap.size w w' := by
  cases hb : lwOk m xs ys k r l lo hi st now with
  | false => rw [(lw_no v hb).1, (lw_no v hb).2]; exact implLaw_bad m a1 a2 l1 c1 l2 c2 xs ys k r v l lo hi st now w hr hb
  | true =>
    rw [(lw_yes v hb).1, (lw_yes v hb).2]
    have f := lwFit hb
    have m0 := f.m0
    have m1 := f.m1
    have hm : m = 0 ∨ m = 1 ∨ m = 2 := by omega
    rcases hm with rfl | rfl | rfl
    · exact implLaw_0 a1 a2 l1 c1 l2 c2 xs ys k r v l lo hi st now w hr hc1 hc2 hb _ _ (hide rfl) (hide rfl)
    · exact implLaw_1 a1 a2 l1 c1 l2 c2 xs ys k r v l lo hi st now w hr hc1 hc2 hb _ _ (hide rfl) (hide rfl)
    · exact implLaw_2 a1 a2 l1 c1 l2 c2 xs ys k r v l lo hi st now w hr hb _ _ (hide rfl) (hide rfl)

end Go.Proofs.Ytbaocifpifbldad
