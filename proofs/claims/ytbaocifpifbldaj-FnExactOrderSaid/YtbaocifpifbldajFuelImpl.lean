/-
  What the program's dryOk, sumWithFuel and sumBehind answer: the tests of a dry sum; the sum of a dry sum and tanks; the sum behind a burn. Right tanks, at most 8; a right dry sum. Nothing that was there is written.
-/
import Derived.Test.YtbaocifpifbldajTankImpl
import Derived.Test.YtbaocifpifbldajFuelPure
import Derived.Test.YtbaocifpifbldajThen
import Derived.Test.YtbaocifpifbldajPc
namespace Go.Proofs.Ytbaocifpifbldaj
open Go.RowKit

set_option maxHeartbeats 1000000 in
theorem dryOk_any (dm dq : Int) (w : World) :
    Calls Try.prog 60 #[.agg #[.int .i64 dm, .int .i64 dq]] w fun e w' => e = .returned (.bool (dryB dm dq)) ∧ Below w.heap.size w w' := by
  rcases two (inB dm 0 400000) (inB dq (-100000000) 100000000) with ⟨h, hv⟩ | ⟨h, h', hv⟩ | ⟨h, h', hv⟩
  all_goals
    have HE : Hid (dryB dm dq = _) := hide hv
    clear hv
    go_enter Try.func60, Try.ntmps60
    go_wp2_with (go_at_call 42; refine (within_any _ _ _ _).mono ?_; rintro e w' ⟨rfl, hw⟩; subst w')
    go_ret
    exact ⟨ret_bool (unhide HE).symm, bel1 _⟩
theorem dryOk_is {c : Bool} (dm dq : Int) (w : World) (hc : dryB dm dq = c) :
    Calls Try.prog 60 #[.agg #[.int .i64 dm, .int .i64 dq]] w fun e w' => e = .returned (.bool c) ∧ Below w.heap.size w w' := by
  subst hc; exact dryOk_any dm dq w

set_option maxHeartbeats 2000000 in
theorem sumWithFuel_any (dm dq : Int) (ad : Option Addr) (len cap : Nat) (ts : List (Int × Int)) (w : World) (hr : Row2 w ad len ts) (h8 : len ≤ 8) (hit : ∀ j, j < ts.length → itemB (fstAt ts j) (sndAt ts j) = true) (hdm : 0 ≤ dm ∧ dm ≤ 400000) (hdq : -100000000 ≤ dq ∧ dq ≤ 100000000) :
    Calls Try.prog 61 #[.agg #[.int .i64 dm, .int .i64 dq], .slice ad len cap] w fun e w' => e = .returned (.agg #[.int .i64 (dm + sumM ts ts.length), .int .i64 (dq + sumQ ts ts.length)]) ∧ Below w.heap.size w w' := by
  have hz := hr.len_eq
  have HO := hide hr.open_
  have HI := hide hit
  clear hr hit
  subst hz
  have Q0 := hide ((Pc.new (w := w.alloc (Obj.cells #[.int .i64 dm, .int .i64 dq] 34)) 0 0 34).below (bel1 (Obj.cells #[.int .i64 dm, .int .i64 dq] 34)))
  have P0 := hide (Pc.new (w := (w.alloc (Obj.cells #[.int .i64 dm, .int .i64 dq] 34)).alloc (Obj.cells #[.int .i64 0, .int .i64 0] 34)) dm dq 34)
  simp only [World.alloc, Array.size_push] at Q0 P0
  have B0 := hide (bel3 (w := w) (Obj.cells #[.int .i64 dm, .int .i64 dq] 34) (Obj.cells #[.int .i64 0, .int .i64 0] 34) (Obj.cells #[.int .i64 dm, .int .i64 dq] 34))
  go_enter Try.func61, Try.ntmps61
  go_wp2
  go_loopw [11] (fun i wr => ∃ k : Nat, k ≤ ts.length ∧ i = .int .i64 k ∧ Pc wr (w.heap.size + 1 + 1) (dm + sumM ts k) (dq + sumQ ts k) ∧ Pc wr (w.heap.size + 1) 0 0 ∧ Below w.heap.size w wr) (fun i _ => ts.length - (intOf i).toNat)
  case atStart => exact ⟨0, Nat.zero_le _, rfl, by have h := unhide P0; simp only [sumM, sumQ, Int.add_zero]; exact h, unhide Q0, unhide B0⟩
  case round =>
    clear P0 Q0 B0
    obtain ⟨k, hk, rfl, hp, hq, hbel⟩ := hrel
    by_cases hlt : k < ts.length
    · rcases (unhide HO) with ⟨h0, _⟩ | ⟨bb, off, rfl, _, hc⟩
      · omega
      obtain ⟨ca, cb⟩ := hc k hlt
      have ca := (hbel.cell (block_lt_of_cell ca)).trans ca
      have cb := (hbel.cell (block_lt_of_cell cb)).trans cb
      have lca := block_lt_of_cell ca
      have fct := item_facts (unhide HI k hlt)
      have bd := sum_bd k (fun j hj => unhide HI j (by omega))
      have hi1 : (k : Int) < (ts.length : Int) := by omega
      have m0 := hp.c0
      have m1 := hp.c1
      have hV := hp.lt
      have HP := hide (hp.below (bel1 (Obj.cells #[.int .i64 (fstAt ts k), .int .i64 (sndAt ts k)] 78)))
      have HQ := hide (hq.below (bel1 (Obj.cells #[.int .i64 (fstAt ts k), .int .i64 (sndAt ts k)] 78)))
      have HB := hide (hbel.alloc hbel.size (Obj.cells #[.int .i64 (fstAt ts k), .int .i64 (sndAt ts k)] 78))
      clear hc hp hq hbel
      go_wp2_with fail
      refine (added_any _ _ _ _ _ (by omega) (by omega) (by omega)).mono ?_
      rintro e w2 ⟨rfl, b2⟩
      have hp := (unhide HP).below b2
      have n0 := hp.c0
      have n1 := hp.c1
      have z0 := hp.f0
      have z1 := hp.f1
      have HS := hide (hp.set (dm + sumM ts k + fstAt ts k) (dq + sumQ ts k + fstAt ts k * sndAt ts k))
      have HR := hide ((((unhide HQ).below b2).other (p := ⟨w.heap.size + 1 + 1, 0, none⟩) (by simp) (.int .i64 (dm + sumM ts k + fstAt ts k))).other (p := ⟨w.heap.size + 1 + 1, 1, none⟩) (by simp) (.int .i64 (dq + sumQ ts k + fstAt ts k * sndAt ts k)))
      have HB := hide ((((unhide HB).trans (b2.mono (unhide HB).size)).setCell (p := ⟨w.heap.size + 1 + 1, 0, none⟩) (by simp; omega) (.int .i64 (dm + sumM ts k + fstAt ts k))).setCell (p := ⟨w.heap.size + 1 + 1, 1, none⟩) (by simp; omega) (.int .i64 (dq + sumQ ts k + fstAt ts k * sndAt ts k)))
      clear hp b2
      go_wp2
      go_roundw
      case rel => exact ⟨k + 1, by omega, by go_num, by rw [sumM_succ, sumQ_succ, ← Int.add_assoc, ← Int.add_assoc]; exact unhide HS, unhide HR, unhide HB⟩
      case measure => simp [intOf]; omega
    · have hkk : k = ts.length := by omega
      subst hkk
      have m0 := hp.c0
      have m1 := hp.c1
      have z0 := hq.c0
      have z1 := hq.c1
      have fz0 := hq.f0
      have fz1 := hq.f1
      have HB := hide hbel
      have hsz := hq.lt
      clear hp hq hbel
      go_wp2
      refine bodyPost_ret (v := .agg #[.int .i64 (dm + sumM ts ts.length), .int .i64 (dq + sumQ ts ts.length)]) (by simp [results, Try.results61, go_sem, *]) rfl ⟨rfl, ?_⟩
      repeat (first | exact unhide HB | refine Below.setCell ?_ (by simp; try omega) _)

set_option maxRecDepth 10000 in
set_option maxHeartbeats 2000000 in
theorem sumBehind_any (m q : Int) (ad : Option Addr) (len cap : Nat) (ts : List (Int × Int)) (t : Nat) (n : Int) (w : World) (hr : Row2 w ad len ts) (ht : t < len) (h8 : len ≤ 8) (hn : -1000000 ≤ n ∧ n ≤ 1000000) (h1 : -9223372036854775808 ≤ m + -n ∧ m + -n ≤ 9223372036854775807) (h2 : -9223372036854775808 ≤ -n * sndAt ts t ∧ -n * sndAt ts t ≤ 9223372036854775807) (h3 : -9223372036854775808 ≤ q + -n * sndAt ts t ∧ q + -n * sndAt ts t ≤ 9223372036854775807) :
    Calls Try.prog 62 #[.agg #[.int .i64 m, .int .i64 q], .slice ad len cap, .agg #[.int .i64 t, .int .i64 n]] w fun e w' => e = .returned (.agg #[.int .i64 (m + -n), .int .i64 (q + -n * sndAt ts t)]) ∧ Below w.heap.size w w' := by
  have hz := hr.len_eq
  subst hz
  rcases hr.open_ with ⟨h0, _⟩ | ⟨bb, off, rfl, _, hc⟩
  · omega
  obtain ⟨_, cb⟩ := hc t ht
  clear hc hr
  have B0 := hide (bel3 (w := w) (Obj.cells #[.int .i64 m, .int .i64 q] 34) (Obj.cells #[.int .i64 t, .int .i64 n] 76) (Obj.cells #[.int .i64 0, .int .i64 0] 34))
  have cb := ((unhide B0).cell (block_lt_of_cell cb)).trans cb
  have P0 := ((Pc.new (w := w) m q 34).below (bel1 (Obj.cells #[.int .i64 t, .int .i64 n] 76))).below (bel1 (Obj.cells #[.int .i64 0, .int .i64 0] 34))
  have P1 := (Pc.new (w := w.alloc (Obj.cells #[.int .i64 m, .int .i64 q] 34)) t n 76).below (bel1 (Obj.cells #[.int .i64 0, .int .i64 0] 34))
  have P2 := Pc.new (w := (w.alloc (Obj.cells #[.int .i64 m, .int .i64 q] 34)).alloc (Obj.cells #[.int .i64 t, .int .i64 n] 76)) 0 0 34
  have e1 : (w.alloc (Obj.cells #[.int .i64 m, .int .i64 q] 34)).heap.size = w.heap.size + 1 := by simp
  have e2 : ((w.alloc (Obj.cells #[.int .i64 m, .int .i64 q] 34)).alloc (Obj.cells #[.int .i64 t, .int .i64 n] 76)).heap.size = w.heap.size + 1 + 1 := by simp
  rw [e1] at P1
  rw [e2] at P2
  obtain ⟨ι, f, hne, hb, hall⟩ := belClass (((w.alloc (Obj.cells #[.int .i64 m, .int .i64 q] 34)).alloc (Obj.cells #[.int .i64 t, .int .i64 n] 76)).alloc (Obj.cells #[.int .i64 0, .int .i64 0] 34))
  have cb : ∀ x, (f x).cell? ⟨bb, off + t * 2 + 1, none⟩ = some (.int .i64 (sndAt ts t)) := fun x => ((hb x).cell (block_lt_of_cell cb)).trans cb
  have m0 : ∀ x, (f x).cell? ⟨w.heap.size, 0, none⟩ = some (.int .i64 m) := fun x => (P0.below (hb x)).c0
  have m1 : ∀ x, (f x).cell? ⟨w.heap.size, 1, none⟩ = some (.int .i64 q) := fun x => (P0.below (hb x)).c1
  have b0 : ∀ x, (f x).cell? ⟨w.heap.size + 1, 0, none⟩ = some (.int .i64 t) := fun x => (P1.below (hb x)).c0
  have b1 : ∀ x, (f x).cell? ⟨w.heap.size + 1, 1, none⟩ = some (.int .i64 n) := fun x => (P1.below (hb x)).c1
  have r0 : ∀ x, (f x).cell? ⟨w.heap.size + 1 + 1, 0, none⟩ = some (.int .i64 0) := fun x => (P2.below (hb x)).c0
  have r1 : ∀ x, (f x).cell? ⟨w.heap.size + 1 + 1, 1, none⟩ = some (.int .i64 0) := fun x => (P2.below (hb x)).c1
  have fr0 : ∀ x, (f x).frozen? ⟨w.heap.size + 1 + 1, 0, none⟩ = false := fun x => (P2.below (hb x)).f0
  have fr1 : ∀ x, (f x).frozen? ⟨w.heap.size + 1 + 1, 1, none⟩ = false := fun x => (P2.below (hb x)).f1
  have HB := hide hb
  have HA := hide hall
  have hi1 : (t : Int) < (ts.length : Int) := by omega
  have hi0 : (0 : Int) ≤ (t : Int) := by omega
  have hneg : IntKind.i64.wrap (-n) = -n := by rw [IntKind.wrap_i64]; omega
  clear hb hall P0 P1 P2 e1 e2
  go_enter Try.func62, Try.ntmps62
  go_wp2_with fail
  refine wp_region_then (unhide HA) (by kernel_rfl) (by kernel_rfl) (by kernel_rfl) ?_
  dsimp only [swapLast, lastOf]
  repeat (go_big_quiet_step ((go_at_call 68; exact belQ (unhide HB) (unhide HA) (added_any _ _ _ _ _ h1 h2 h3))))
  refine wpQuiet_nil ?_
  rintro _ ⟨x, rfl⟩
  go_simp
  go_wp2
  have B1 := hide ((unhide B0).trans ((unhide HB x).mono (by simp; omega)))
  refine bodyPost_ret (v := .agg #[.int .i64 (m + -n), .int .i64 (q + -n * sndAt ts t)]) (by simp [results, Try.results62, go_sem, *]) rfl ⟨rfl, ?_⟩
  repeat (first | exact unhide B1 | refine Below.setCell ?_ (by simp; try omega) _)

end Go.Proofs.Ytbaocifpifbldaj
