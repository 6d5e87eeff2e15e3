/-
  The program's walk forth and back: what a step leaves of a point; the plain numbers.
-/
import Derived.Test.YtbaocifpifbldaePfIm1
import Derived.Test.YtbaocifpifbldaePfRch
import Derived.Test.YtbaocifpifbldaePwPure
import Derived.Test.YtbaocifpifbldaeWhole
import Derived.Defers
namespace Go.Proofs.Ytbaocifpifbldae
open Go.RowKit

set_option maxHeartbeats 400000 in
theorem sizeOf_is {c : Int} (x : Int) (w : World) (hx : -1000000000 ≤ x ∧ x ≤ 1000000000) (hc : (x.natAbs : Int) = c) :
    Calls Try.prog 98 #[.int .i64 x] w fun e w' => e = .returned (.int .i64 c) ∧ w' = w := by
  subst hc
  by_cases g : x < -x
  all_goals
    go_enter Try.func98, Try.ntmps98
    go_wp2
    go_ret
    exact ⟨ret_int (by omega), rfl⟩
set_option maxHeartbeats 400000 in
theorem areSo_is {b : Bool} (up down : Int) (w : World) (hb : slB up down = b) : Calls Try.prog 96 #[.agg #[.int .i64 up, .int .i64 down]] w fun e w' => e = .returned (.bool b) ∧ Below w.heap.size w w' := by
  subst hb
  rcases two (inB up 0 1000) (inB down 0 1000) with ⟨q1, hv⟩ | ⟨q1, q2, hv⟩ | ⟨q1, q2, hv⟩
  all_goals
    have HE := hide (show slB up down = _ from hv)
    rw [unhide HE]
    clear hv
    go_enter Try.func96, Try.ntmps96
    go_wp2_with (go_at_call 51; refine (within_is _ _ _ _ (by first | exact q1 | exact q2)).mono ?_; rintro e w' ⟨rfl, hw⟩; subst w')
    go_ret
    exact ⟨rfl, by first | exact bel1 _ | exact Below.refl _ _⟩
set_option maxHeartbeats 400000 in
theorem back_is (up down : Int) (w : World) : Calls Try.prog 153 #[.agg #[.int .i64 up, .int .i64 down]] w fun e w' => e = .returned (.agg #[.int .i64 down, .int .i64 up]) ∧ Below w.heap.size w w' := by
  go_enter Try.func153, Try.ntmps153
  go_wp2
  refine bodyPost_ret (v := .agg #[.int .i64 down, .int .i64 up]) (by simp [results, Try.results153, go_sem]) rfl ⟨rfl, ?_⟩
  exact bel2 _ _
set_option maxRecDepth 20000 in
set_option maxHeartbeats 1000000 in
theorem come_is {lo hi : Int} (up down f0 f1 f2 t0 t1 t2 d : Int) (w : World) (hf0 : 0 ≤ f0 ∧ f0 ≤ 100000) (hf1 : 0 ≤ f1 ∧ f1 ≤ 100000) (hf2 : 0 ≤ f2 ∧ f2 ≤ 100000) (ht0 : 0 ≤ t0 ∧ t0 ≤ 100000) (_ht1 : 0 ≤ t1 ∧ t1 ≤ 100000) (_ht2 : 0 ≤ t2 ∧ t2 ≤ 100000)
    (hu : 0 ≤ up ∧ up ≤ 1000) (hd : 0 ≤ down ∧ down ≤ 1000) (hn : ((t0 - f0).natAbs : Int) = d) (hlo : max t1 (f1 - down * d) = lo) (hhi : min t2 (f2 + up * d) = hi) :
    Calls Try.prog 152 #[.agg #[.int .i64 up, .int .i64 down], .agg #[.int .i64 f0, .int .i64 f1, .int .i64 f2], .agg #[.int .i64 t0, .int .i64 t1, .int .i64 t2]] w fun e w' => e = .returned (.agg #[.int .i64 t0, .int .i64 lo, .int .i64 hi]) ∧ Below w.heap.size w w' := by
  have d0 : 0 ≤ d := by omega
  have d1 : d ≤ 100000 := by omega
  have m1 := mulBd (s := down) (d := d) (A := 1000) (B := 100000) (by omega) (by omega) (by omega) (by omega) (by omega) (by omega)
  have m2 := mulBd (s := up) (d := d) (A := 1000) (B := 100000) (by omega) (by omega) (by omega) (by omega) (by omega) (by omega)
  obtain ⟨md, hmd⟩ : ∃ m, down * d = m := ⟨_, rfl⟩
  obtain ⟨mu, hmu⟩ : ∃ m, up * d = m := ⟨_, rfl⟩
  rw [hmd] at m1 hlo
  rw [hmu] at m2 hhi
  have HN := hide hn
  have HLO := hide hlo
  have HHI := hide hhi
  clear hn hlo hhi
  go_enter Try.func152, Try.ntmps152
  go_wp2_with (go_at_call 98; refine (sizeOf_is _ _ (by omega) (unhide HN)).mono ?_; rintro e w' ⟨rfl, hw⟩; subst w')
  all_goals
    have e1 := unhide HLO
    have e2 := unhide HHI
    clear HLO HHI HN
    refine bodyPost_ret (v := .agg #[.int .i64 t0, .int .i64 lo, .int .i64 hi]) (by simp [results, Try.results152, go_sem]; omega) rfl ⟨rfl, ?_⟩
    exact (((bel1 _).alloc (by simp) _).alloc (by simp; omega) _).alloc (by simp; omega) _

end Go.Proofs.Ytbaocifpifbldae
