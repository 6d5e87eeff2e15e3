/-
  What heights can be had, in the model: the plain answer, at every list and slopes; the list owns its memory; nothing that was there is written.
-/
import Derived.Test.YtbaocifpifbldavPfOk
import Derived.Test.YtbaocifpifbldavMinMax
import Derived.Test.YtbaocifpifbldavThen
import Derived.Test.YtbaocifpifbldavBel
import Derived.Test.YtbaocifpifbldavAppEl
import Derived.Test.YtbaocifpifbldavBlk
import Derived.Test.YtbaocifpifbldavRowPo
namespace Go.Proofs.Ytbaocifpifbldav
open Go.RowKit

theorem mx_is {c : Int} (x y : Int) (w : World) (h : max x y = c) : Calls Try.prog 38 #[.int .i64 x, .int .i64 y] w fun e w' => e = .returned (.int .i64 c) ∧ w' = w := by subst h; exact l1Max_eq x y w
theorem mn_is {c : Int} (x y : Int) (w : World) (h : min x y = c) : Calls Try.prog 39 #[.int .i64 x, .int .i64 y] w fun e w' => e = .returned (.int .i64 c) ∧ w' = w := by subst h; exact l1Min_eq x y w
theorem poE_none {w w1 : World} (h : w.heap.size ≤ w1.heap.size) : OwnE 3 poC (w1.alloc (Obj.cells #[] 51)) w.heap.size 51 (.slice (some ⟨w1.heap.size, 0, none⟩) 0 0) [] := by
  refine ⟨⟨[], ⟨rfl, .inr ⟨_, _, #[], rfl, h, ?_, Nat.le_refl _, by simp [maxLen], rfl, rfl⟩⟩, fun j hj => by simp at hj⟩⟩
  show (w1.heap.push _)[w1.heap.size]? = _
  simp
/-- A list of points that grows. -/
structure RcW (w wr : World) (g n cp : Nat) (out : List Po) : Prop where
  o : OwnE 3 poC wr w.heap.size 51 (.slice (some ⟨g, 0, none⟩) n cp) out
  l : out.length = n
  bel : Below w.heap.size w wr
theorem RcW.below {w wr w' : World} {g n cp : Nat} {out : List Po} (k : RcW w wr g n cp out) (b : Below wr.heap.size wr w') : RcW w w' g n cp out := ⟨k.o.below b, k.l, k.bel.trans (b.mono k.bel.size)⟩
theorem RcW.setP {w wr : World} {g n cp : Nat} {out : List Po} (k : RcW w wr g n cp out) {P o : Nat} (v : Value) (h : P ≠ g) (hP : w.heap.size ≤ P) : RcW w (wr.setCell ⟨P, o, none⟩ v) g n cp out := by
  refine ⟨k.o.set_other _ ?_, k.l, k.bel.setCell hP _⟩
  intro e
  have : g = P := Option.some.inj e
  omega
theorem RcW.app {w wr w' : World} {g n cp g' cp' : Nat} {out : List Po} {z : Po} (k : RcW w wr g n cp out) (o : OwnE 3 poC w' w.heap.size 51 (.slice (some ⟨g', 0, none⟩) (n + 1) cp') (out ++ [z])) (gr : wr.grownBy w' (Value.slice (some ⟨g, 0, none⟩) n cp).ownBlock) : RcW w w' g' (n + 1) cp' (out ++ [z]) :=
  ⟨o, by simp [k.l], k.bel.grown gr k.bel.size (fun q hq => (k.o.lies q hq).1)⟩
theorem RcW.lt {w wr : World} {g n cp : Nat} {out : List Po} (k : RcW w wr g n cp out) : g < wr.heap.size := (k.o.lies g rfl).2
theorem RcW.at_ {w wr : World} {g n cp : Nat} {out : List Po} (k : RcW w wr g n cp out) {j : Nat} (hj : j < n) (q : Nat) (hq : q < 3) : wr.cell? ⟨g, j * 3 + q, none⟩ = some (poC (elAt out j) q) := (k.o.here k.l j hj q hq).1
theorem rcA_in (ps : List Po) (up down : Int) : ∀ k, (elAt ps k).a1 ≤ (rcA ps up down k).a1 ∧ (rcA ps up down k).a2 ≤ (elAt ps k).a2
  | 0 => ⟨Int.le_refl _, Int.le_refl _⟩
  | k + 1 => ⟨by simp only [rcA]; omega, by simp only [rcA]; omega⟩
set_option maxHeartbeats 400000 in
theorem l13Slopes_is {b : Bool} (up down : Int) (w : World) (hb : slB up down = b) : Calls Try.prog 37 #[.int .i64 up, .int .i64 down] w fun e w' => e = .returned (.bool b) ∧ w' = w := by
  subst hb
  rcases two (inB up 0 1000) (inB down 0 1000) with ⟨q1, hv⟩ | ⟨q1, q2, hv⟩ | ⟨q1, q2, hv⟩
  all_goals
    have HE := hide (show slB up down = _ from hv)
    rw [unhide HE]
    clear hv
    go_enter Try.func37, Try.ntmps37
    go_wp2_with (go_at_call 32; refine (l1In_is _ _ _ _ (by first | exact q1 | exact q2)).mono ?_; rintro e w' ⟨rfl, hw⟩; subst w')
    go_ret
    exact ⟨rfl, rfl⟩
theorem specPointsOk_is {c : Bool} (ad : Option Addr) (len cap : Nat) (ps : List Po) (w : World) (hr : RowE 3 poC w ad len ps) (hc : poB ps = c) :
    Calls Try.prog 10 #[.slice ad len cap] w fun e w' => e = .returned (.bool c) ∧ Below w.heap.size w w' := by subst hc; exact specPointsOk_any ad len cap ps w hr

set_option maxRecDepth 20000 in
set_option maxHeartbeats 1000000 in
theorem specReach_bad (ad : Option Addr) (len cap : Nat) (ps : List Po) (up down : Int) (w : World) (hr : RowE 3 poC w ad len ps) (hv : (poB ps && slB up down) = false) :
    Calls Try.prog 14 #[.slice ad len cap, .int .i64 up, .int .i64 down] w fun e w' => ∃ a1 c1, e = .returned (.tuple #[.slice a1 (rchL ps up down).length c1, .int .i64 (rchK ps up down), .bool (rchB ps up down)]) ∧ OwnE 3 poC w' w.heap.size 51 (.slice a1 (rchL ps up down).length c1) (rchL ps up down) ∧ Below w.heap.size w w' := by
  have e1 : rchL ps up down = [] := by simp [rchL, hv]
  have e2 : rchK ps up down = -1 := by simp [rchK, hv]
  have e3 : rchB ps up down = false := hv
  rw [e1, e2, e3]
  clear e1 e2 e3
  rcases two (poB ps) (slB up down) with ⟨q1, _⟩ | ⟨q1, q2, _⟩ | ⟨q1, q2, h⟩
  · have HR := hide (hr.alloc (Obj.cells #[] 51))
    clear hr hv
    go_enter Try.func14, Try.ntmps14
    go_wp2_with (go_at_call 10; refine (specPointsOk_is _ _ _ ps _ (unhide HR) q1).mono ?_; rintro e w1 ⟨rfl, b1⟩; have B1 := hide b1; clear b1)
    go_ret3
    exact ⟨some ⟨w.heap.size, 0, none⟩, 0, rfl, (poE_none (Nat.le_refl _)).below (unhide B1), (bel1 _).trans ((unhide B1).mono (by simp))⟩
  · have HR := hide (hr.alloc (Obj.cells #[] 51))
    clear hr hv
    go_enter Try.func14, Try.ntmps14
    go_wp2_with (first | (go_at_call 10; refine (specPointsOk_is _ _ _ ps _ (unhide HR) q1).mono ?_; rintro e w1 ⟨rfl, b1⟩; have B1 := hide b1; clear b1) | (go_at_call 37; refine (l13Slopes_is _ _ _ q2).mono ?_; rintro e w' ⟨rfl, hw⟩; subst w'))
    go_ret3
    exact ⟨some ⟨w.heap.size, 0, none⟩, 0, rfl, (poE_none (Nat.le_refl _)).below (unhide B1), (bel1 _).trans ((unhide B1).mono (by simp))⟩
  · rw [h] at hv; cases hv

set_option maxRecDepth 20000 in
set_option maxHeartbeats 1000000 in
theorem specReach_on (ad : Option Addr) (len cap : Nat) (ps : List Po) (up down : Int) (w : World) (hr : RowE 3 poC w ad len ps) (q1 : poB ps = true) (q2 : slB up down = true) :
    Calls Try.prog 14 #[.slice ad len cap, .int .i64 up, .int .i64 down] w fun e w' => ∃ a1 c1, e = .returned (.tuple #[.slice a1 (rchL ps up down).length c1, .int .i64 (rchK ps up down), .bool (rchB ps up down)]) ∧ OwnE 3 poC w' w.heap.size 51 (.slice a1 (rchL ps up down).length c1) (rchL ps up down) ∧ Below w.heap.size w w' := by
  have hz := hr.len_eq
  have HR := hide (hr.alloc (Obj.cells #[] 51))
  have HOP := hide hr.open_
  clear hr
  subst hz
  have pf := poB_facts q1
  have HPF := hide pf.1
  have lb := pf.2.1
  have hb := pf.2.2
  have su : (0 ≤ up ∧ up ≤ 1000) ∧ (0 ≤ down ∧ down ≤ 1000) := by
    have h : (inB up 0 1000 && inB down 0 1000) = true := q2
    simp only [Bool.and_eq_true] at h
    exact ⟨in_facts h.1, in_facts h.2⟩
  obtain ⟨⟨u0, u1⟩, v0, v1⟩ := su
  have EL : Hid (∀ k, rcK ps up down = k → rchL ps up down = rcL ps up down k) := hide (fun k hk => by simp [rchL, q1, q2, hk])
  have EB : Hid (rchB ps up down = true) := hide (by simp [rchB, q1, q2])
  have EK : Hid (rcK ps up down = ps.length → rchK ps up down = -1) := hide (fun hk => by simp [rchK, q1, q2, hk])
  have EK2 : Hid (∀ k, k < ps.length → rcK ps up down = k → rchK ps up down = k) := hide (fun k h1 hk => by simp [rchK, q1, q2, hk, h1])
  have Q1 := hide q1
  clear pf
  go_enter Try.func14, Try.ntmps14
  go_wp2_with (first | (go_at_call 10; refine (specPointsOk_is _ _ _ ps _ (unhide HR) (unhide Q1)).mono ?_; rintro e w1 ⟨rfl, b1⟩; have KJ : Hid (RcW w w1 w.heap.size 0 0 []) := hide ⟨(poE_none (Nat.le_refl _)).below b1, rfl, (bel1 _).trans (b1.mono (by simp))⟩; clear b1) | (go_at_call 37; refine (l13Slopes_is _ _ _ q2).mono ?_; rintro e w' ⟨rfl, hw⟩; subst w'))
  go_loopw [9, 10] (fun s9 s10 wr => ∃ (i g cp : Nat), i ≤ ps.length ∧ s9 = .slice (some ⟨g, 0, none⟩) i cp ∧ s10 = .int .i64 (i : Int) ∧ Hid (∀ j, j < i → ¬ (rcA ps up down j).a2 < (rcA ps up down j).a1) ∧ Hid (RcW w wr g i cp (rcL ps up down i))) (fun _ s10 _ => ps.length - (intOf s10).toNat)
  case atStart => exact ⟨0, _, 0, Nat.zero_le _, rfl, rfl, hide (fun j hj => by omega), KJ⟩
  case round =>
    obtain ⟨i, g, cp, hi, rfl, rfl, HN, HK⟩ := hrel
    clear KJ
    by_cases hlt : i < ps.length
    · rcases (unhide HOP) with ⟨h0, _⟩ | ⟨bb, off, rfl, _, hcs⟩
      · omega
      have n1 : (0 : Int) ≤ (i : Int) := by omega
      have n2 : (i : Int) < (ps.length : Int) := by omega
      have bw := (unhide HK).bel
      have pa := poAt_facts (unhide HPF i hlt)
      have p0' : wr.cell? ⟨bb, off + i * 3, none⟩ = some (.int .i64 (elAt ps i).a0) := (bw.cell (block_lt_of_cell (hcs i hlt 0 (by omega)))).trans (hcs i hlt 0 (by omega))
      have p1' : wr.cell? ⟨bb, off + i * 3 + 1, none⟩ = some (.int .i64 (elAt ps i).a1) := (bw.cell (block_lt_of_cell (hcs i hlt 1 (by omega)))).trans (hcs i hlt 1 (by omega))
      have p2' : wr.cell? ⟨bb, off + i * 3 + 2, none⟩ = some (.int .i64 (elAt ps i).a2) := (bw.cell (block_lt_of_cell (hcs i hlt 2 (by omega)))).trans (hcs i hlt 2 (by omega))
      by_cases hi0 : i = 0
      · have hz1 : ¬ (0 : Int) < (i : Int) := by omega
        have hz2 : ¬ 0 < i := by omega
        have nh : ¬ (elAt ps i).a2 < (elAt ps i).a1 := by omega
        have HA : Hid (rcA ps up down i = elAt ps i) := hide (by rw [hi0]; rfl)
        have HI := hide hi0
        have K5 := hide ((unhide HK).below (bel1 (Obj.cells #[.int .i64 (elAt ps i).a0, .int .i64 (elAt ps i).a1, .int .i64 (elAt ps i).a2] 51)))
        clear hcs bw hi0
        go_wp2_with (at_builtin; (refine wpList_app_elG (K := 3) (cells := poC) rfl _ _ 25 51 rfl Try.underlying25 infoPo rfl (by decide) (by decide) (elAt ps i) [.int .i64 (elAt ps i).a0, .int .i64 (elAt ps i).a1, .int .i64 (elAt ps i).a2] rfl (fun q hq => by match q, hq with | 0, _ => rfl | 1, _ => rfl | 2, _ => rfl) (fun u hu => by simp at hu; rcases hu with rfl | rfl | rfl <;> rfl) (unhide K5).o (unhide K5).l rfl (by simp) rfl (unhide K5).bel.size (by omega) ?_; intro g' c' w9 o9 gr9 _; have K9 := hide ((unhide K5).app o9 gr9); clear o9 gr9))
        go_roundw
        case rel => exact ⟨i + 1, _, _, by omega, rfl, by go_num, hide (fun j hj => by rcases Nat.lt_succ_iff_lt_or_eq.1 hj with h | h; exact unhide HN j h; subst h; rw [unhide HA]; exact nh), by rw [rcL_next, unhide HA]; exact K9⟩
        case measure => simp [intOf]; omega
      · obtain ⟨j, hj⟩ : ∃ j, i = j + 1 := ⟨i - 1, by omega⟩
        have hsub : (i : Int) - 1 = (j : Int) := by omega
        have hwr : IntKind.i64.wrap (j : Int) = (j : Int) := by rw [IntKind.wrap_i64]; omega
        have hj0 : (0 : Int) ≤ (j : Int) := by omega
        have hj1 : (j : Int) < (ps.length : Int) := by omega
        have hj2 : (j : Int) < (i : Int) := by omega
        have hz0 : (0 : Int) < (i : Int) := by omega
        have hz2 : 0 < i := by omega
        have pj := poAt_facts (unhide HPF j (by omega))
        have e0 := hcs j (by omega) 0 (by omega)
        have cj : (wr.alloc (Obj.cells #[.int .i64 (elAt ps i).a0, .int .i64 (elAt ps i).a1, .int .i64 (elAt ps i).a2] 51)).cell? ⟨bb, off + j * 3, none⟩ = some (.int .i64 (elAt ps j).a0) := ((bw.alloc bw.size _).cell (block_lt_of_cell e0)).trans e0
        have hpr : elAt ps (i - 1) = elAt ps j := by rw [hj]; rfl
        rw [hpr] at pa
        have hrin := rcA_in ps up down j
        have hrok := unhide HN j (by omega)
        obtain ⟨rj, hrj⟩ : ∃ r, rcA ps up down j = r := ⟨_, rfl⟩
        rw [hrj] at hrin hrok
        obtain ⟨dd, hdd⟩ : ∃ dd, (elAt ps i).a0 - (elAt ps j).a0 = dd := ⟨_, rfl⟩
        have d0 : 0 ≤ dd := by omega
        have d1 : dd ≤ 100000 := by omega
        have m1 := mulBd (s := down) (d := dd) (A := 1000) (B := 100000) (by omega) (by omega) (by omega) (by omega) (by omega) (by omega)
        have m2 := mulBd (s := up) (d := dd) (A := 1000) (B := 100000) (by omega) (by omega) (by omega) (by omega) (by omega) (by omega)
        obtain ⟨md, hmd⟩ : ∃ m, down * dd = m := ⟨_, rfl⟩
        obtain ⟨mu, hmu⟩ : ∃ m, up * dd = m := ⟨_, rfl⟩
        rw [hmd] at m1
        rw [hmu] at m2
        have md0 := m1.1
        have md1 := m1.2
        have mu0 := m2.1
        have mu1 := m2.2
        obtain ⟨lo, hlo⟩ : ∃ z, max (elAt ps i).a1 (rj.a1 - md) = z := ⟨_, rfl⟩
        obtain ⟨hi2, hhi⟩ : ∃ z, min (elAt ps i).a2 (rj.a2 + mu) = z := ⟨_, rfl⟩
        have HLO := hide hlo
        have HHI := hide hhi
        have HA : Hid (rcA ps up down i = ⟨(elAt ps i).a0, lo, hi2⟩) := hide (by
          rw [hj] at hlo hhi hdd ⊢
          show (⟨_, _, _⟩ : Po) = _
          rw [hrj, hdd, hmd, hmu, hlo, hhi])
        have r0 : 0 ≤ rj.a1 := by omega
        have r1 : rj.a1 ≤ 100000 := by omega
        have r2 : 0 ≤ rj.a2 := by omega
        have r3 : rj.a2 ≤ 100000 := by omega
        have gl := (unhide HK).lt
        have hPg : ¬ wr.heap.size = g := by omega
        have hPw := bw.size
        have HE : Hid (elAt (rcL ps up down i) j = rj) := hide (by rw [rcL_at (by omega), hrj])
        have HJ := hide hj
        have KP : Hid (∀ n, Blk ((wr.alloc (Obj.cells #[.int .i64 (elAt ps i).a0, .int .i64 (elAt ps i).a1, .int .i64 (elAt ps i).a2] 51)).drewN n) wr.heap.size [.int .i64 (elAt ps i).a0, .int .i64 (elAt ps i).a1, .int .i64 (elAt ps i).a2]) := hide (fun n => (Blk.new [.int .i64 (elAt ps i).a0, .int .i64 (elAt ps i).a1, .int .i64 (elAt ps i).a2] 51).drewN n)
        have K0 : Hid (∀ n, RcW w ((wr.alloc (Obj.cells #[.int .i64 (elAt ps i).a0, .int .i64 (elAt ps i).a1, .int .i64 (elAt ps i).a2] 51)).drewN n) g i cp (rcL ps up down i)) := hide (fun n => ((unhide HK).below (bel1 _)).below (bel0d n))
        have pa1 := pa.2.1.1
        have pa2 := pa.2.1.2
        have pa3 := pa.2.2.1
        clear hcs bw hi0 hj hpr e0 hrj hlo hhi pj hrin hrok m1 m2 pa
        go_wp2_with fail
        go_quiet (fail)
        obtain ⟨W1, hW1⟩ : ∃ W, W = (wr.alloc (Obj.cells #[.int .i64 (elAt ps i).a0, .int .i64 (elAt ps i).a1, .int .i64 (elAt ps i).a2] 51)).drewN nq := ⟨_, rfl⟩
        have KP1 := hide (unhide KP nq)
        have K1 := hide (unhide K0 nq)
        rw [← hW1] at KP1 K1 ⊢
        clear hW1 KP K0 cj
        go_wp2_with fail
        obtain ⟨ι, f, _, hbf, hall⟩ := belClass W1
        have HB := hide hbf
        have HAL := hide hall
        have x1 : ∀ x, (f x).cell? ⟨wr.heap.size, 1, none⟩ = some (.int .i64 (elAt ps i).a1) := fun x => ((unhide KP1).below (hbf x)).c 1 (by simp)
        have x2 : ∀ x, (f x).frozen? ⟨wr.heap.size, 1, none⟩ = false := fun x => ((unhide KP1).below (hbf x)).f 1 (by simp)
        have x3 : ∀ x, (f x).cell? ⟨g, j * 3 + 1, none⟩ = some (.int .i64 rj.a1) := fun x => by
          have := ((unhide K1).below (hbf x)).at_ (j := j) (by omega) 1 (by omega)
          rw [unhide HE] at this
          exact this
        clear hbf hall
        refine wp_region_then (unhide HAL) (by kernel_rfl) (by kernel_rfl) (by kernel_rfl) ?_
        dsimp only [swapLast, lastOf]
        repeat (go_big_quiet_step ((go_at_call 38; exact belS (mx_is _ _ _ (unhide HLO)))))
        refine wpQuiet_nil ?_
        rintro _ ⟨y, rfl⟩
        go_simp
        obtain ⟨U, hU⟩ : ∃ U, U = (f y).setCell ⟨wr.heap.size, 1, none⟩ (.int .i64 lo) := ⟨_, rfl⟩
        have KP2 : Hid (Blk U wr.heap.size [.int .i64 (elAt ps i).a0, .int .i64 lo, .int .i64 (elAt ps i).a2]) := hide (by rw [hU]; have := ((unhide KP1).below (unhide HB y)).set 1 (by simp) (.int .i64 lo); simpa using this)
        have K2 : Hid (RcW w U g i cp (rcL ps up down i)) := hide (by rw [hU]; exact ((unhide K1).below (unhide HB y)).setP _ hPg hPw)
        rw [← hU]
        clear hU x1 x2 x3 HB HAL KP1 K1
        go_wp2_with fail
        obtain ⟨ι2, f2, _, hbf, hall⟩ := belClass U
        have HB := hide hbf
        have HAL := hide hall
        have x1 : ∀ x, (f2 x).cell? ⟨wr.heap.size, 2, none⟩ = some (.int .i64 (elAt ps i).a2) := fun x => ((unhide KP2).below (hbf x)).c 2 (by simp)
        have x2 : ∀ x, (f2 x).frozen? ⟨wr.heap.size, 2, none⟩ = false := fun x => ((unhide KP2).below (hbf x)).f 2 (by simp)
        have x3 : ∀ x, (f2 x).cell? ⟨g, j * 3 + 2, none⟩ = some (.int .i64 rj.a2) := fun x => by
          have := ((unhide K2).below (hbf x)).at_ (j := j) (by omega) 2 (by omega)
          rw [unhide HE] at this
          exact this
        clear hbf hall
        refine wp_region_then (unhide HAL) (by kernel_rfl) (by kernel_rfl) (by kernel_rfl) ?_
        dsimp only [swapLast, lastOf]
        repeat (go_big_quiet_step ((go_at_call 39; exact belS (mn_is _ _ _ (unhide HHI)))))
        refine wpQuiet_nil ?_
        rintro _ ⟨y2, rfl⟩
        go_simp
        obtain ⟨U2, hU2⟩ : ∃ U, U = (f2 y2).setCell ⟨wr.heap.size, 2, none⟩ (.int .i64 hi2) := ⟨_, rfl⟩
        have KP3 : Hid (Blk U2 wr.heap.size [.int .i64 (elAt ps i).a0, .int .i64 lo, .int .i64 hi2]) := hide (by rw [hU2]; have := ((unhide KP2).below (unhide HB y2)).set 2 (by simp) (.int .i64 hi2); simpa using this)
        have K3 : Hid (RcW w U2 g i cp (rcL ps up down i)) := hide (by rw [hU2]; exact ((unhide K2).below (unhide HB y2)).setP _ hPg hPw)
        rw [← hU2]
        clear hU2 x1 x2 x3 HB HAL KP2 K2
        have y0 : U2.cell? ⟨wr.heap.size, 0, none⟩ = some (.int .i64 (elAt ps i).a0) := (unhide KP3).c 0 (by simp)
        have y1 : U2.cell? ⟨wr.heap.size, 1, none⟩ = some (.int .i64 lo) := (unhide KP3).c 1 (by simp)
        have y2 : U2.cell? ⟨wr.heap.size, 2, none⟩ = some (.int .i64 hi2) := (unhide KP3).c 2 (by simp)
        by_cases hbad : hi2 < lo
        · have E0 := hide (rcK_here (up := up) (down := down) hlt (by rw [unhide HA]; exact hbad) (fun j hj => by have := unhide HN j hj; omega))
          have E1 := hide (unhide EL _ (unhide E0))
          have E2 := hide (unhide EK2 _ hlt (unhide E0))
          go_wp2_with fail
          go_ret3
          have ko := (unhide K3).o
          have kb := (unhide K3).bel
          refine ⟨some ⟨g, 0, none⟩, cp, ?_, ?_, kb⟩
          · rw [unhide E1, unhide E2, unhide EB, rcL_len]; try rfl
          · rw [unhide E1, rcL_len]; exact ko
        · go_wp2_with (at_builtin; (refine wpList_app_elG (K := 3) (cells := poC) rfl _ _ 25 51 rfl Try.underlying25 infoPo rfl (by decide) (by decide) ⟨(elAt ps i).a0, lo, hi2⟩ [.int .i64 (elAt ps i).a0, .int .i64 lo, .int .i64 hi2] rfl (fun q hq => by match q, hq with | 0, _ => rfl | 1, _ => rfl | 2, _ => rfl) (fun u hu => by simp at hu; rcases hu with rfl | rfl | rfl <;> rfl) (unhide K3).o (unhide K3).l rfl (by simp) rfl (unhide K3).bel.size (by omega) ?_; intro g' c' w9 o9 gr9 _; have K9 := hide ((unhide K3).app o9 gr9); clear o9 gr9))
          go_roundw
          case rel => exact ⟨i + 1, _, _, by omega, rfl, by go_num, hide (fun j hj => by rcases Nat.lt_succ_iff_lt_or_eq.1 hj with h | h; (have := unhide HN j h; omega); subst h; rw [unhide HA]; exact hbad), by rw [rcL_next, unhide HA]; exact K9⟩
          case measure => simp [intOf]; omega
    · have n2 : ¬ (i : Int) < (ps.length : Int) := by omega
      have hie : i = ps.length := by omega
      have e0 := rcK_none (ps := ps) (up := up) (down := down) (fun j hj => unhide HN j (by omega))
      have E1 := hide (unhide EL _ e0)
      have E2 := hide (unhide EK e0)
      have HI := hide hie
      clear hie e0
      go_wp2
      go_ret3
      have kl := (unhide HK).l
      have ko := (unhide HK).o
      have kb := (unhide HK).bel
      refine ⟨some ⟨g, 0, none⟩, cp, ?_, ?_, kb⟩
      · rw [unhide E1, unhide E2, unhide EB, rcL_len, ← unhide HI]; try rfl
      · rw [unhide E1, rcL_len, ← unhide HI]; exact ko

theorem rchL_small (ps : List Po) (up down : Int) : (rchL ps up down).length ≤ 1048576 := by
  unfold rchL
  split
  · rename_i h
    simp only [Bool.and_eq_true] at h
    have := (poB_facts h.1).2.2
    rw [rcL_len]
    unfold rcK
    cases e : (List.range ps.length).find? fun k => decide ((rcA ps up down k).a2 < (rcA ps up down k).a1) with
    | none => simp; omega
    | some k =>
      rw [List.find?_range_eq_some] at e
      have := List.mem_range.1 e.2.1
      simp; omega
  · simp
theorem specReach_any (ad : Option Addr) (len cap : Nat) (ps : List Po) (up down : Int) (w : World) (hr : RowE 3 poC w ad len ps) :
    Calls Try.prog 14 #[.slice ad len cap, .int .i64 up, .int .i64 down] w fun e w' => ∃ a1 c1, e = .returned (.tuple #[.slice a1 (rchL ps up down).length c1, .int .i64 (rchK ps up down), .bool (rchB ps up down)]) ∧ OwnE 3 poC w' w.heap.size 51 (.slice a1 (rchL ps up down).length c1) (rchL ps up down) ∧ Below w.heap.size w w' := by
  cases hv : (poB ps && slB up down) with
  | false => exact specReach_bad ad len cap ps up down w hr hv
  | true =>
    simp only [Bool.and_eq_true] at hv
    exact specReach_on ad len cap ps up down w hr hv.1 hv.2

end Go.Proofs.Ytbaocifpifbldav
