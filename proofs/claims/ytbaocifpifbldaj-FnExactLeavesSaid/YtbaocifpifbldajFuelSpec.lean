/-
  What the model's l2With and l2Dry answer: the sum of a dry sum and tanks; the tests of a dry sum. Right tanks, at most 8; a right dry sum. Nothing that was there is written.
-/
import Derived.Test.YtbaocifpifbldajTankSpec
import Derived.Test.YtbaocifpifbldajEnvSpec
import Derived.Test.YtbaocifpifbldajFuelPure
import Derived.Test.YtbaocifpifbldajThen
import Derived.Test.YtbaocifpifbldajPc
namespace Go.Proofs.Ytbaocifpifbldaj
open Go.RowKit

set_option maxHeartbeats 2000000 in
theorem l2With_any (dm dq : Int) (ad : Option Addr) (len cap : Nat) (ts : List (Int × Int)) (w : World) (hr : Row2 w ad len ts) (h8 : len ≤ 8) (hit : ∀ j, j < ts.length → itemB (fstAt ts j) (sndAt ts j) = true) (hdm : 0 ≤ dm ∧ dm ≤ 400000) (hdq : -100000000 ≤ dq ∧ dq ≤ 100000000) :
    Calls Try.prog 59 #[.agg #[.int .i64 dm, .int .i64 dq], .slice ad len cap] w fun e w' => e = .returned (.agg #[.int .i64 (dm + sumM ts ts.length), .int .i64 (dq + sumQ ts ts.length)]) ∧ Below w.heap.size w w' := by
  have hz := hr.len_eq
  have HO := hide hr.open_
  have HI := hide hit
  clear hr hit
  subst hz
  have P0 := hide ((Pc.new (w := w) dm dq 34).below (bel1 (Obj.cells #[.int .i64 0, .int .i64 0] 34)))
  have Q0 := hide (Pc.new (w := w.alloc (Obj.cells #[.int .i64 dm, .int .i64 dq] 34)) 0 0 34)
  simp only [World.alloc, Array.size_push] at Q0
  have B0 := hide (bel2 (w := w) (Obj.cells #[.int .i64 dm, .int .i64 dq] 34) (Obj.cells #[.int .i64 0, .int .i64 0] 34))
  go_enter Try.func59, Try.ntmps59
  go_wp2
  go_loopw [5] (fun i wr => ∃ k : Nat, k ≤ ts.length ∧ i = .int .i64 k ∧ Pc wr w.heap.size (dm + sumM ts k) (dq + sumQ ts k) ∧ Pc wr (w.heap.size + 1) 0 0 ∧ Below w.heap.size w wr) (fun i _ => ts.length - (intOf i).toNat)
  case atStart => exact ⟨0, Nat.zero_le _, rfl, by have h := unhide P0; simp only [sumM, sumQ, Int.add_zero]; exact h, unhide Q0, unhide B0⟩
  case round =>
    clear P0 Q0 B0
    obtain ⟨k, hk, rfl, hp, hq, hbel⟩ := hrel
    by_cases hlt : k < ts.length
    · rcases (unhide HO) with ⟨h0, _⟩ | ⟨bb, off, rfl, _, hc⟩
      · omega
      obtain ⟨ca, cb⟩ := hc k hlt
      have ca := (hbel.cell (block_lt_of_cell ca)).trans ca
      have cb := (hbel.cell (block_lt_of_cell cb)).trans cb
      have fct := item_facts (unhide HI k hlt)
      have bd := sum_bd k (fun j hj => unhide HI j (by omega))
      have hi1 : (k : Int) < (ts.length : Int) := by omega
      have hi0 : (0 : Int) ≤ (k : Int) := by omega
      obtain ⟨ι, f, hne, hb, hall⟩ := belClass wr
      have ca : ∀ x, (f x).cell? ⟨bb, off + k * 2, none⟩ = some (.int .i64 (fstAt ts k)) := fun x => ((hb x).cell (block_lt_of_cell ca)).trans ca
      have cb : ∀ x, (f x).cell? ⟨bb, off + k * 2 + 1, none⟩ = some (.int .i64 (sndAt ts k)) := fun x => ((hb x).cell (block_lt_of_cell cb)).trans cb
      have m0 : ∀ x, (f x).cell? ⟨w.heap.size, 0, none⟩ = some (.int .i64 (dm + sumM ts k)) := fun x => (hp.below (hb x)).c0
      have m1 : ∀ x, (f x).cell? ⟨w.heap.size, 1, none⟩ = some (.int .i64 (dq + sumQ ts k)) := fun x => (hp.below (hb x)).c1
      have z0 : ∀ x, (f x).frozen? ⟨w.heap.size, 0, none⟩ = false := fun x => (hp.below (hb x)).f0
      have z1 : ∀ x, (f x).frozen? ⟨w.heap.size, 1, none⟩ = false := fun x => (hp.below (hb x)).f1
      have HS := hide fun x => (hp.below (hb x)).set (dm + sumM ts k + fstAt ts k) (dq + sumQ ts k + fstAt ts k * sndAt ts k)
      have HR := hide fun x => ((hq.below (hb x)).other (p := ⟨w.heap.size, 0, none⟩) (by simp) (.int .i64 (dm + sumM ts k + fstAt ts k))).other (p := ⟨w.heap.size, 1, none⟩) (by simp) (.int .i64 (dq + sumQ ts k + fstAt ts k * sndAt ts k))
      have HB := hide fun x => ((hbel.trans ((hb x).mono hbel.size)).setCell (p := ⟨w.heap.size, 0, none⟩) (Nat.le_refl _) (.int .i64 (dm + sumM ts k + fstAt ts k))).setCell (p := ⟨w.heap.size, 1, none⟩) (Nat.le_refl _) (.int .i64 (dq + sumQ ts k + fstAt ts k * sndAt ts k))
      have HA := hide hall
      have q1 : IntKind.i64.wrap (dm + sumM ts k + fstAt ts k) = dm + sumM ts k + fstAt ts k := by rw [IntKind.wrap_i64]; omega
      have q2 : IntKind.i64.wrap (fstAt ts k * sndAt ts k) = fstAt ts k * sndAt ts k := by rw [IntKind.wrap_i64]; omega
      have q3 : IntKind.i64.wrap (dq + sumQ ts k + fstAt ts k * sndAt ts k) = dq + sumQ ts k + fstAt ts k * sndAt ts k := by rw [IntKind.wrap_i64]; omega
      clear hc hp hq hbel hb hall
      go_wp2_with fail
      refine wp_region_then (unhide HA) (by kernel_rfl) (by kernel_rfl) (by kernel_rfl) ?_
      dsimp only [swapLast, lastOf]
      repeat (go_big_quiet_step (fail))
      refine wpQuiet_nil ?_
      rintro _ ⟨x, rfl⟩
      go_simp
      go_wp2
      go_roundw
      case rel => exact ⟨k + 1, by omega, by go_num, by rw [sumM_succ, sumQ_succ, ← Int.add_assoc, ← Int.add_assoc]; exact unhide HS x, unhide HR x, unhide HB x⟩
      case measure => simp [intOf]; omega
    · have hkk : k = ts.length := by omega
      subst hkk
      have m0 := hp.c0
      have m1 := hp.c1
      have z0 := hq.c0
      have z1 := hq.c1
      have fz0 := hq.f0
      have fz1 := hq.f1
      have HB := hide hbel
      have hsz := hq.lt
      clear hp hq hbel
      go_wp2
      refine bodyPost_ret (v := .agg #[.int .i64 (dm + sumM ts ts.length), .int .i64 (dq + sumQ ts ts.length)]) (by simp [results, Try.results59, go_sem, *]) rfl ⟨rfl, ?_⟩
      repeat (first | exact unhide HB | refine Below.setCell ?_ (by simp; try omega) _)

set_option maxHeartbeats 2000000 in
theorem l2Dry_any (a1 a2 a3 : Option Addr) (l1 c1 l2 c2 l3 c3 : Nat) (ms fs gs : List Int) (dm dq : Int) (w : World) (h1 : Row w a1 l1 ms) (h2 : Row w a2 l2 fs) (h3 : Row w a3 l3 gs) :
    Calls Try.prog 58 #[.agg #[.slice a1 l1 c1, .slice a2 l2 c2, .slice a3 l3 c3], .agg #[.int .i64 dm, .int .i64 dq]] w fun e w' => e = .returned (.bool (envB ms fs gs && dryB dm dq)) ∧ Below w.heap.size w w' := by
  have B0 := hide (bel2 (w := w) (.cells #[.slice a1 l1 c1, .slice a2 l2 c2, .slice a3 l3 c3] 27) (.cells #[.int .i64 dm, .int .i64 dq] 34))
  have H1 := hide (h1.below (unhide B0))
  have H2 := hide (h2.below (unhide B0))
  have H3 := hide (h3.below (unhide B0))
  clear h1 h2 h3
  rcases three (envB ms fs gs) (inB dm 0 400000) (inB dq (-100000000) 100000000) with ⟨h, hv⟩ | ⟨h, h', hv⟩ | ⟨h, h', h'', hv⟩ | ⟨h, h', h'', hv⟩
  all_goals
    have HE : Hid ((envB ms fs gs && dryB dm dq) = _) := hide ((show (envB ms fs gs && dryB dm dq) = (envB ms fs gs && inB dm 0 400000 && inB dq (-100000000) 100000000) from by unfold dryB; rw [Bool.and_assoc]).trans hv)
    clear hv
    go_enter Try.func58, Try.ntmps58
    go_wp2_with fail
    refine (specEnvelopeOk_is _ _ _ _ _ _ _ _ _ ms fs gs _ h (unhide H1) (unhide H2) (unhide H3)).mono ?_
    rintro e w1 ⟨rfl, b1⟩
    have y0 : w1.cell? ⟨w.heap.size + 1, 0, none⟩ = some (.int .i64 dm) := (b1.cell (p := ⟨w.heap.size + 1, 0, none⟩) (by simp)).trans (by simp [go_sem])
    have y1 : w1.cell? ⟨w.heap.size + 1, 1, none⟩ = some (.int .i64 dq) := (b1.cell (p := ⟨w.heap.size + 1, 1, none⟩) (by simp)).trans (by simp [go_sem])
    have B1 := hide ((unhide B0).trans (b1.mono (by simp; omega)))
    clear b1
    go_wp2_with (go_at_call 38; refine (l1In_any _ _ _ _).mono ?_; rintro e w' ⟨rfl, hw⟩; subst w')
    go_ret
    exact ⟨ret_bool (unhide HE).symm, unhide B1⟩
theorem l2Dry_is {c : Bool} (a1 a2 a3 : Option Addr) (l1 c1 l2 c2 l3 c3 : Nat) (ms fs gs : List Int) (dm dq : Int) (w : World) (hc : (envB ms fs gs && dryB dm dq) = c) (h1 : Row w a1 l1 ms) (h2 : Row w a2 l2 fs) (h3 : Row w a3 l3 gs) :
    Calls Try.prog 58 #[.agg #[.slice a1 l1 c1, .slice a2 l2 c2, .slice a3 l3 c3], .agg #[.int .i64 dm, .int .i64 dq]] w fun e w' => e = .returned (.bool c) ∧ Below w.heap.size w w' := by
  subst hc; exact l2Dry_any a1 a2 a3 l1 c1 l2 c2 l3 c3 ms fs gs dm dq w h1 h2 h3

end Go.Proofs.Ytbaocifpifbldaj
