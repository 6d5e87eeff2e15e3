/-
  What the program's hangar does: fly, doTask, mend, find. The fleet is so, its texts can be there.
-/
import Derived.Test.YticdccdkjepifaaGreatHgSm
import Derived.Test.YticdccdkjepifaaGreatRlImp
import Derived.Test.YticdccdkjepifaaGreatMRlIx
import Derived.Test.YticdccdkjepifaaGreatInsD
import Derived.Test.YticdccdkjepifaaGreatDelD
import Derived.Test.YticdccdkjepifaaGreatMMinMax
import Derived.Deep.RegionHeld3
namespace Go.Proofs.YticdccdkjepifaaGreat
open Go Go.RowKit

theorem fl_in {w : World} {base G : Nat} {m : Int} {a1 a2 a3 : Option Addr} {c1 c2 c3 : Nat} {ts : List Ts} {cs : List Cr} {ds : List Df} {nh nc nd : Int} (h : Hg w base G m a1 a2 a3 c1 c2 c3 ts cs ds nh nc nd) : FlIn w a1 a2 a3 ts.length cs.length ds.length ts cs ds := h.own.read
set_option maxRecDepth 20000 in
set_option maxHeartbeats 2000000 in
theorem fly_any (base G : Nat) (a1 a2 a3 : Option Addr) (c1 c2 c3 : Nat) (ts : List Ts) (cs : List Cr) (ds : List Df) (nh nc nd : Int) (m : Int) (w : World) (h : Hg w base G 1 a1 a2 a3 c1 c2 c3 ts cs ds nh nc nd) (ff : FitF ⟨ts, cs, ds, nh, nc, nd⟩) (hf : flB ⟨ts, cs, ds, nh, nc, nd⟩ = true) :
    Calls Tryz.prog 56 #[.pointer (some ⟨G, 0, none⟩), .int .i64 m] w fun e w' => e = .returned (.bool (flyB ⟨ts, cs, ds, nh, nc, nd⟩ ⟨1, ⟨#[]⟩, 0, m⟩)) ∧ HgE w' base G 1 (if flyB ⟨ts, cs, ds, nh, nc, nd⟩ ⟨1, ⟨#[]⟩, 0, m⟩ = true then ⟨ts, cs, ds, nh + m, nc + 1, nd⟩ else ⟨ts, cs, ds, nh, nc, nd⟩) ∧ Aps (hz G a1 a2 a3) w w' := by
  obtain ⟨f1, f2, f3, f4⟩ := flB_facts hf
  obtain ⟨n1, n2, n3⟩ := ckB_facts f1
  obtain ⟨k3, _, _⟩ := listI_facts f4
  obtain ⟨k1, _, _⟩ := listS_facts f3
  simp only at n1 n2 n3 k3 k1
  clear f1 f2 f3 f4
  have HH := hide h
  have HF := hide hf
  have FF := hide ff
  clear h hf ff
  have g2 : w.cell? ⟨G, 2, none⟩ = some (.slice a1 ts.length c1) := (unhide HH).blk.c 2 (by simp)
  have g3 : w.cell? ⟨G, 3, none⟩ = some (.slice a2 cs.length c2) := (unhide HH).blk.c 3 (by simp)
  have g4 : w.cell? ⟨G, 4, none⟩ = some (.slice a3 ds.length c3) := (unhide HH).blk.c 4 (by simp)
  have g5 : w.cell? ⟨G, 5, none⟩ = some (.int .i64 nh) := (unhide HH).blk.c 5 (by simp)
  have g6 : w.cell? ⟨G, 6, none⟩ = some (.int .i64 nc) := (unhide HH).blk.c 6 (by simp)
  have g7 : w.cell? ⟨G, 7, none⟩ = some (.int .i64 nd) := (unhide HH).blk.c 7 (by simp)
  have hsz := (unhide HH).size
  have CR : Hid (Calls Tryz.prog 82 #[.agg #[.slice a1 ts.length c1, .slice a2 cs.length c2, .slice a3 ds.length c3, .int .i64 nh, .int .i64 nc, .int .i64 nd]] w fun e w' => e = .returned (.tuple #[.int .i64 (rlR ⟨ts, cs, ds, nh, nc, nd⟩).1, .string (rlR ⟨ts, cs, ds, nh, nc, nd⟩).2]) ∧ Below w.heap.size w w') := hide (implRelease_any nh nc nd a1 a2 a3 _ c1 _ c2 _ c3 ts cs ds w (fl_in (unhide HH)) (unhide FF).t (unhide FF).c (unhide FF).d)
  obtain ⟨R, hR⟩ : ∃ R, (rlR ⟨ts, cs, ds, nh, nc, nd⟩).1 = R := ⟨_, rfl⟩
  obtain ⟨S, hS⟩ : ∃ S, (rlR ⟨ts, cs, ds, nh, nc, nd⟩).2 = S := ⟨_, rfl⟩
  rw [hR, hS] at CR
  obtain ⟨K, hK⟩ : ∃ K, flyB ⟨ts, cs, ds, nh, nc, nd⟩ ⟨1, ⟨#[]⟩, 0, m⟩ = K := ⟨_, rfl⟩
  have HK : Hid ((decide (R = 0) && inB m 1 100 && ckB (nh + m) (nc + 1) nd) = K) := hide (by rw [← hK, flyB, hR])
  rw [hK]
  clear hR hS hK
  rcases three (decide (R = 0)) (inB m 1 100) (ckB (nh + m) (nc + 1) nd) with ⟨q1, hv⟩ | ⟨q1, q2, hv⟩ | ⟨q1, q2, q3, hv⟩ | ⟨q1, q2, q3, hv⟩
  · obtain rfl : K = false := (unhide HK).symm.trans hv
    clear hv HK
    have q1' : ¬ R = 0 := of_decide_eq_false q1
    clear q1
    go_enter Tryz.func56, Tryz.ntmps56
    go_wp2_with fail
    refine (unhide CR).mono ?_
    rintro e w1 ⟨rfl, b1⟩
    have H1 := hide ((unhide HH).below b1)
    have B1 := hide (apz G a1 a2 a3 b1)
    clear b1
    go_wp2_with fail
    go_ret
    exact ⟨rfl, ⟨_, _, _, _, _, _, unhide H1⟩, unhide B1⟩
  · obtain rfl : K = false := (unhide HK).symm.trans hv
    clear hv HK
    obtain rfl : R = 0 := of_decide_eq_true q1
    clear q1
    go_enter Tryz.func56, Tryz.ntmps56
    go_wp2_with fail
    refine (unhide CR).mono ?_
    rintro e w1 ⟨rfl, b1⟩
    have H1 := hide ((unhide HH).below b1)
    have B1 := hide (apz G a1 a2 a3 b1)
    clear b1
    go_wp2_with fail
    refine (within_is _ _ _ _ q2).mono ?_
    rintro e w' ⟨rfl, hw⟩
    subst w'
    go_wp2_with fail
    go_ret
    exact ⟨rfl, ⟨_, _, _, _, _, _, unhide H1⟩, unhide B1⟩
  · obtain rfl : K = false := (unhide HK).symm.trans hv
    clear hv HK
    obtain rfl : R = 0 := of_decide_eq_true q1
    clear q1
    have m1 : 1 ≤ m ∧ m ≤ 100 := of_decide_eq_true q2
    go_enter Tryz.func56, Tryz.ntmps56
    go_wp2_with fail
    refine (unhide CR).mono ?_
    rintro e w1 ⟨rfl, b1⟩
    have H1 := hide ((unhide HH).below b1)
    have B1 := hide (apz G a1 a2 a3 b1)
    clear b1
    go_wp2_with fail
    refine (within_is _ _ _ _ q2).mono ?_
    rintro e w' ⟨rfl, hw⟩
    subst w'
    go_wp2_with fail
    refine (pass_no base G a1 a2 a3 c1 c2 c3 ts cs ds nh nc nd m 1 0 w1 (unhide H1) n1 n2 n3 (by omega) (by omega) (by omega) (by rw [Int.add_zero]; exact q3)).mono ?_
    rintro e w2 ⟨rfl, h2, b2⟩
    have H2 := hide h2
    have B2 := hide ((unhide B1).trans b2)
    clear h2 b2
    go_wp2_with fail
    go_ret
    exact ⟨rfl, ⟨_, _, _, _, _, _, unhide H2⟩, unhide B2⟩
  · obtain rfl : K = true := (unhide HK).symm.trans hv
    clear hv HK
    obtain rfl : R = 0 := of_decide_eq_true q1
    clear q1
    have m1 : 1 ≤ m ∧ m ≤ 100 := of_decide_eq_true q2
    go_enter Tryz.func56, Tryz.ntmps56
    go_wp2_with fail
    refine (unhide CR).mono ?_
    rintro e w1 ⟨rfl, b1⟩
    have H1 := hide ((unhide HH).below b1)
    have B1 := hide (apz G a1 a2 a3 b1)
    clear b1
    go_wp2_with fail
    refine (within_is _ _ _ _ q2).mono ?_
    rintro e w' ⟨rfl, hw⟩
    subst w'
    go_wp2_with fail
    refine (pass_yes base G a1 a2 a3 c1 c2 c3 ts cs ds nh nc nd m 1 0 w1 (unhide H1) n1 n2 n3 (by omega) (by omega) (by omega) (by rw [Int.add_zero]; exact q3)).mono ?_
    rintro e w2 ⟨rfl, h2, b2⟩
    have H2 := hide h2
    have B2 := hide ((unhide B1).trans b2)
    clear h2 b2
    go_wp2_with fail
    rw [Int.add_zero] at H2
    go_ret
    exact ⟨rfl, ⟨_, _, _, _, _, _, unhide H2⟩, unhide B2⟩
theorem Hg.task {w : World} {base G g k : Nat} {m : Int} {a2 a3 : Option Addr} {c1 c2 c3 : Nat} {ts : List Ts} {cs : List Cr} {ds : List Df} {nh nc nd : Int} (h : Hg w base G m (some ⟨g, 0, none⟩) a2 a3 c1 c2 c3 ts cs ds nh nc nd) (hk : k < ts.length) (f : Fl) (e : f.nh = nh ∧ f.nc = nc ∧ f.nd = nd) :
    Hg (((w.setCell ⟨g, k * 7 + 4, none⟩ (.int .i64 nh)).setCell ⟨g, k * 7 + 5, none⟩ (.int .i64 nc)).setCell ⟨g, k * 7 + 6, none⟩ (.int .i64 nd)) base G m (some ⟨g, 0, none⟩) a2 a3 c1 c2 c3 (ts.set k (dnT f (elAt ts k))) cs ds nh nc nd := by
  obtain ⟨e1, e2, e3⟩ := e
  have o1 := h.own.o1.setOne rfl k hk 4 (by omega) (.int .i64 nh) ⟨(elAt ts k).nm, (elAt ts k).h, (elAt ts k).c, (elAt ts k).d, nh, (elAt ts k).dc, (elAt ts k).dd⟩ (by intro p hp; rcases (show p = 0 ∨ p = 1 ∨ p = 2 ∨ p = 3 ∨ p = 4 ∨ p = 5 ∨ p = 6 from by omega) with rfl | rfl | rfl | rfl | rfl | rfl | rfl <;> rfl)
  have o2 := o1.setMore rfl hk 5 (by omega) (.int .i64 nc) ⟨(elAt ts k).nm, (elAt ts k).h, (elAt ts k).c, (elAt ts k).d, nh, nc, (elAt ts k).dd⟩ (by intro p hp; rcases (show p = 0 ∨ p = 1 ∨ p = 2 ∨ p = 3 ∨ p = 4 ∨ p = 5 ∨ p = 6 from by omega) with rfl | rfl | rfl | rfl | rfl | rfl | rfl <;> rfl)
  have o3 := o2.setMore rfl hk 6 (by omega) (.int .i64 nd) ⟨(elAt ts k).nm, (elAt ts k).h, (elAt ts k).c, (elAt ts k).d, nh, nc, nd⟩ (by intro p hp; rcases (show p = 0 ∨ p = 1 ∨ p = 2 ∨ p = 3 ∨ p = 4 ∨ p = 5 ∨ p = 6 from by omega) with rfl | rfl | rfl | rfl | rfl | rfl | rfl <;> rfl)
  have ed : dnT f (elAt ts k) = ⟨(elAt ts k).nm, (elAt ts k).h, (elAt ts k).c, (elAt ts k).d, nh, nc, nd⟩ := by rw [dnT, e1, e2, e3]
  have eg : g ≠ G := fun q => h.n1 (by rw [q]; rfl)
  have n2 : (Value.slice a2 cs.length c2).ownBlock ≠ some g := h.own.p12 g rfl
  have n3 : (Value.slice a3 ds.length c3).ownBlock ≠ some g := h.own.p13 g rfl
  rw [ed]
  have el : (ts.set k (⟨(elAt ts k).nm, (elAt ts k).h, (elAt ts k).c, (elAt ts k).d, nh, nc, nd⟩ : Ts)).length = ts.length := List.length_set
  refine ⟨?_, ⟨?_, ((h.own.o2.set_other _ n2).set_other _ n2).set_other _ n2, ((h.own.o3.set_other _ n3).set_other _ n3).set_other _ n3, ?_, ?_, h.own.p23⟩, h.low, ?_, h.n2, h.n3, h.s3⟩
  · rw [el]; exact ((h.blk.other (p := ⟨g, k * 7 + 4, none⟩) eg _).other (p := ⟨g, k * 7 + 5, none⟩) eg _).other (p := ⟨g, k * 7 + 6, none⟩) eg _
  · rw [el]; exact o3
  · rw [el]; exact h.own.p12
  · rw [el]; exact h.own.p13
  · rw [el]; exact h.n1
set_option maxRecDepth 20000 in
set_option maxHeartbeats 4000000 in
theorem doTask_any (base G : Nat) (a1 a2 a3 : Option Addr) (c1 c2 c3 : Nat) (ts : List Ts) (cs : List Cr) (ds : List Df) (nh nc nd : Int) (nm : ByteArray) (w : World) (h : Hg w base G 1 a1 a2 a3 c1 c2 c3 ts cs ds nh nc nd) (ff : FitF ⟨ts, cs, ds, nh, nc, nd⟩) (hf : flB ⟨ts, cs, ds, nh, nc, nd⟩ = true) :
    Calls Tryz.prog 57 #[.pointer (some ⟨G, 0, none⟩), .string nm] w fun e w' => e = .returned (.bool (decide (0 ≤ ixE (qTs nm) ts))) ∧ HgE w' base G 1 (if 0 ≤ ixE (qTs nm) ts then ⟨ts.set (ixE (qTs nm) ts).toNat (dnT ⟨ts, cs, ds, nh, nc, nd⟩ (elAt ts (ixE (qTs nm) ts).toNat)), cs, ds, nh, nc, nd⟩ else ⟨ts, cs, ds, nh, nc, nd⟩) ∧ Aps (hz G a1 a2 a3) w w' := by
  obtain ⟨f1, f2, f3, f4⟩ := flB_facts hf
  obtain ⟨n1, n2, n3⟩ := ckB_facts f1
  obtain ⟨k3, _, _⟩ := listI_facts f4
  obtain ⟨k1, _, _⟩ := listS_facts f3
  simp only at n1 n2 n3 k3 k1
  clear f1 f2 f3 f4
  have HH := hide h
  have HF := hide hf
  have FF := hide ff
  clear h hf ff
  have hsz := (unhide HH).size
  obtain ⟨V0, hV0⟩ : ∃ V, V = w.alloc (Obj.cells #[.string nm] 9) := ⟨_, rfl⟩
  have bV : Below w.heap.size w V0 := by rw [hV0]; exact bel1 _
  have H0 := hide ((unhide HH).below bV)
  have KN : Hid (Blk V0 w.heap.size [.string nm]) := hide (by rw [hV0]; exact Blk.new _ _)
  have B0 := hide (apz G a1 a2 a3 bV)
  have CI : Hid (Calls Tryz.prog 83 #[.slice a1 ts.length c1, .func (.func 84) #[] #[.pointer (some ⟨w.heap.size, 0, none⟩)]] V0 fun e w' => e = .returned (.int .i64 (ixE (qTs nm) ts)) ∧ Below V0.heap.size V0 w') := hide (ixTask (qTs nm) _ a1 _ c1 ts V0 (unhide H0).own.o1.row (fun i U hi b => tkClo_any (elAt ts i) nm w.heap.size U ((unhide KN).below b)))
  have g2 : V0.cell? ⟨G, 2, none⟩ = some (.slice a1 ts.length c1) := (unhide H0).blk.c 2 (by simp)
  have HW := hide hV0
  clear hV0 bV
  rcases ixE_cases (qTs nm) ts with ⟨e, _⟩ | ⟨k, hk, e, _, _⟩
  · have hm : ¬ (0 : Int) ≤ -1 := by omega
    rw [e, if_neg hm, decide_eq_false hm]
    rw [e] at CI
    go_enter Tryz.func57, Tryz.ntmps57
    go_upto_region 1 with fail
    rw [← unhide HW]
    clear HW
    go_wp2_with fail
    refine (unhide CI).mono ?_
    rintro e w1 ⟨rfl, b1⟩
    have H1 := hide ((unhide H0).below b1)
    have B1 := hide ((unhide B0).trans (Aps.of_below b1))
    clear b1 g2
    go_wp2_with fail
    go_ret
    exact ⟨rfl, ⟨_, _, _, _, _, _, unhide H1⟩, unhide B1⟩
  · have hm : (0 : Int) ≤ (k : Int) := by omega
    rw [e, if_pos hm, decide_eq_true hm]
    rw [Int.toNat_natCast]
    have hi1 : (k : Int) < (ts.length : Int) := by omega
    have hne : ¬ ((k : Int) = -1) := by omega
    rw [e] at CI
    go_enter Tryz.func57, Tryz.ntmps57
    go_upto_region 1 with fail
    rw [← unhide HW]
    clear HW
    go_wp2_with fail
    refine (unhide CI).mono ?_
    rintro e w1 ⟨rfl, b1⟩
    have H1 := hide ((unhide H0).below b1)
    have B1 := hide ((unhide B0).trans (Aps.of_below b1))
    clear b1 g2
    rcases (unhide H1).own.o1.form with ⟨_, e0⟩ | ⟨g, cp, ev, hbg, _, _⟩
    · rw [e0] at hk; simp at hk
    simp only [Value.slice.injEq] at ev
    obtain ⟨rfl, _, rfl⟩ := ev
    have HK := hide hk
    go_wp2_with fail
    obtain ⟨ιw, fW, _, hb, hall⟩ := belClass w1
    have HB := hide hb
    have HA := hide hall
    have HZ : Hid (∀ z, Hg (fW z) base G 1 (some ⟨g, 0, none⟩) a2 a3 c1 c2 c3 ts cs ds nh nc nd) := hide (fun z => (unhide H1).below (hb z))
    have d2 : ∀ z, (fW z).cell? ⟨G, 2, none⟩ = some (.slice (some ⟨g, 0, none⟩) ts.length c1) := fun z => (unhide HZ z).blk.c 2 (by simp)
    have d5 : ∀ z, (fW z).cell? ⟨G, 5, none⟩ = some (.int .i64 nh) := fun z => (unhide HZ z).blk.c 5 (by simp)
    have d6 : ∀ z, (fW z).cell? ⟨G, 6, none⟩ = some (.int .i64 nc) := fun z => (unhide HZ z).blk.c 6 (by simp)
    have d7 : ∀ z, (fW z).cell? ⟨G, 7, none⟩ = some (.int .i64 nd) := fun z => (unhide HZ z).blk.c 7 (by simp)
    have t4 : ∀ z, (fW z).cell? ⟨g, k * 7 + 4, none⟩ = some (.int .i64 (elAt ts k).dh) := fun z => ((unhide HZ z).own.o1.here rfl k hk 4 (by omega)).1
    have r4 : ∀ z, (fW z).frozen? ⟨g, k * 7 + 4, none⟩ = false := fun z => ((unhide HZ z).own.o1.here rfl k hk 4 (by omega)).2
    have t5 : ∀ z, (fW z).cell? ⟨g, k * 7 + 5, none⟩ = some (.int .i64 (elAt ts k).dc) := fun z => ((unhide HZ z).own.o1.here rfl k hk 5 (by omega)).1
    have r5 : ∀ z, (fW z).frozen? ⟨g, k * 7 + 5, none⟩ = false := fun z => ((unhide HZ z).own.o1.here rfl k hk 5 (by omega)).2
    have t6 : ∀ z, (fW z).cell? ⟨g, k * 7 + 6, none⟩ = some (.int .i64 (elAt ts k).dd) := fun z => ((unhide HZ z).own.o1.here rfl k hk 6 (by omega)).1
    have r6 : ∀ z, (fW z).frozen? ⟨g, k * 7 + 6, none⟩ = false := fun z => ((unhide HZ z).own.o1.here rfl k hk 6 (by omega)).2
    clear hb hall
    obtain ⟨x0, h0⟩ := (unhide HA) w1 (Below.refl _ _)
    rw [h0]
    clear h0
    refine wp_region_then (fun w' h => (unhide HA) w' ((unhide HB _).trans (h.mono (unhide HB _).size))) (by kernel_rfl) (by kernel_rfl) (by kernel_rfl) ?_
    dsimp only [swapLast, lastOf]
    (repeat (go_big_quiet_step (fail)))
    refine wpQuiet_nil ?_
    rintro _ ⟨y, rfl⟩
    go_simp
    have HN := hide ((unhide HZ y).task (unhide HK) ⟨ts, cs, ds, nh, nc, nd⟩ ⟨rfl, rfl, rfl⟩)
    have BY := hide ((unhide B1).trans (Aps.of_below (unhide HB y)))
    go_wp2_with fail
    go_ret
    exact ⟨rfl, ⟨_, _, _, _, _, _, unhide HN⟩, (((unhide BY).setS (p := ⟨g, k * 7 + 4, none⟩) hz_1 _).setS (p := ⟨g, k * 7 + 5, none⟩) hz_1 _).setS (p := ⟨g, k * 7 + 6, none⟩) hz_1 _⟩
set_option maxRecDepth 20000 in
set_option maxHeartbeats 4000000 in
theorem mend_any (base G : Nat) (a1 a2 a3 : Option Addr) (c1 c2 c3 : Nat) (ts : List Ts) (cs : List Cr) (ds : List Df) (nh nc nd : Int) (it : Int) (w : World) (h : Hg w base G 1 a1 a2 a3 c1 c2 c3 ts cs ds nh nc nd) (ff : FitF ⟨ts, cs, ds, nh, nc, nd⟩) (hf : flB ⟨ts, cs, ds, nh, nc, nd⟩ = true) :
    Calls Tryz.prog 59 #[.pointer (some ⟨G, 0, none⟩), .int .i64 it] w fun e w' => e = .returned (.bool (atI ds it)) ∧ HgE w' base G 1 (if atI ds it = true then ⟨ts, cs, ds.take (plR it ds) ++ ds.drop (plR it ds + 1), nh, nc, nd⟩ else ⟨ts, cs, ds, nh, nc, nd⟩) ∧ Aps (hz G a1 a2 a3) w w' := by
  obtain ⟨f1, f2, f3, f4⟩ := flB_facts hf
  obtain ⟨n1, n2, n3⟩ := ckB_facts f1
  obtain ⟨k3, _, _⟩ := listI_facts f4
  obtain ⟨k1, _, _⟩ := listS_facts f3
  simp only at n1 n2 n3 k3 k1
  clear f1 f2 f3 f4
  have HH := hide h
  have HF := hide hf
  have FF := hide ff
  clear h hf ff
  have hsz := (unhide HH).size
  have CP := hide (placeOf_any base G a1 a2 a3 c1 c2 c3 ts cs ds nh nc nd it w (unhide HH) (by omega))
  have hpl := plR_le it ds
  have HAT : Hid (atI ds it = true → plR it ds < ds.length) := hide (fun e => (of_decide_eq_true e).1)
  obtain ⟨p, hp⟩ : ∃ p, plR it ds = p := ⟨_, rfl⟩
  rw [hp] at CP hpl HAT
  obtain ⟨T, hT⟩ : ∃ T, atI ds it = T := ⟨_, rfl⟩
  rw [hT] at CP HAT
  rw [hp, hT]
  clear hp hT
  cases T with
  | false =>
    go_enter Tryz.func59, Tryz.ntmps59
    go_wp2_with fail
    refine (unhide CP).mono ?_
    rintro e w1 ⟨rfl, b1⟩
    have H1 := hide ((unhide HH).below b1)
    have B1 := hide (apz G a1 a2 a3 b1)
    clear b1
    go_wp2_with fail
    go_ret
    exact ⟨rfl, ⟨_, _, _, _, _, _, unhide H1⟩, unhide B1⟩
  | true =>
    have hlt : p < ds.length := (unhide HAT) rfl
    go_enter Tryz.func59, Tryz.ntmps59
    go_wp2_with fail
    refine (unhide CP).mono ?_
    rintro e w1 ⟨rfl, b1⟩
    have H1 := hide ((unhide HH).below b1)
    have B1 := hide (apz G a1 a2 a3 b1)
    clear b1
    rcases (unhide H1).own.o3.form with ⟨_, e0⟩ | ⟨g, cp, ev, hbg, _, _⟩
    · rw [e0] at hlt; simp at hlt
    simp only [Value.slice.injEq] at ev
    obtain ⟨rfl, _, rfl⟩ := ev
    obtain ⟨n, hn⟩ : ∃ n, ds.length = n + 1 := ⟨ds.length - 1, by omega⟩
    have g4 : w1.cell? ⟨G, 4, none⟩ = some (.slice (some ⟨g, 0, none⟩) ds.length c3) := (unhide H1).blk.c 4 (by simp)
    have HDL : Hid ((dlD ds p).length = n) := hide (by rw [dlD_len hlt]; omega)
    have CX : Hid (Calls Tryz.prog 87 #[.slice (some ⟨g, 0, none⟩) ds.length c3, .int .i64 (p : Int), .int .i64 ((p : Int) + 1)] w1 fun e w' => e = .returned (.slice (some ⟨g, 0, none⟩) n c3) ∧ OwnE 3 dfC w' base 94 (.slice (some ⟨g, 0, none⟩) n c3) (dlD ds p) ∧ w1.grownBy w' (some g)) := hide (by
      have k := delD_any base g ds.length n c3 p (p + 1) ds w1 (unhide H1).own.o3 rfl hn rfl (by omega) hlt
      rw [Int.natCast_add] at k
      exact k)
    have HN := hide hn
    clear hn
    go_wp2_with fail
    refine (unhide CX).mono ?_
    rintro e w2 ⟨rfl, o2, gr⟩
    have ng : (Value.slice (some ⟨g, 0, none⟩) n c3).ownBlock ≠ some G := fun e => (unhide H1).n3 e
    have HX : Hid (Hg (w2.setCell ⟨G, 4, none⟩ (.slice (some ⟨g, 0, none⟩) (dlD ds p).length c3)) base G 1 a1 a2 (some ⟨g, 0, none⟩) c1 c2 c3 ts cs (dlD ds p) nh nc nd) := hide ((unhide H1).defects gr (by rw [unhide HDL]; exact o2) (by rw [unhide HDL]; exact ng) (by simp))
    rw [unhide HDL] at HX
    have hlo := (unhide H1).low
    have B2 := hide ((unhide B1).grow gr (fun q hq => by cases hq; exact hz_3))
    have y4 : w2.cell? ⟨G, 4, none⟩ = some (.slice (some ⟨g, 0, none⟩) ds.length c3) := ((unhide H1).blk.apart gr (fun e => (unhide H1).n3 e.symm)).c 4 (by simp)
    have z4 : w2.frozen? ⟨G, 4, none⟩ = false := ((unhide H1).blk.apart gr (fun e => (unhide H1).n3 e.symm)).f 4 (by simp)
    clear o2 gr ng g4
    go_wp2_with fail
    go_ret
    exact ⟨rfl, ⟨a1, a2, some ⟨g, 0, none⟩, c1, c2, c3, unhide HX⟩, (unhide B2).setS (p := ⟨G, 4, none⟩) hz_G _⟩

end Go.Proofs.YticdccdkjepifaaGreat
