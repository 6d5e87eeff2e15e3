/-
  The law FnCarried returns true at every list of bytes and writes nothing that was there: the walk. No condition.
-/
import Derived.Test.YtfnnfldfnjnlfagMKpPure
import Derived.Test.YtfnnfldfnjnlfagMRlCar
import Derived.Test.YtfnnfldfnjnlfagDrFl
import Derived.Test.YtfnnfldfnjnlfagNxImp
import Derived.Test.YtfnnfldfnjnlfagRlImp
import Derived.Test.YtfnnfldfnjnlfagRlSpec
import Derived.Test.YtfnnfldfnjnlfagMSomeMet
import Derived.Deep.CutRange
namespace Go.Proofs.Ytfnnfldfnjnlfag
open Go Go.RowKit

set_option maxRecDepth 20000 in
set_option maxHeartbeats 1000000 in
theorem lawFnCarried_big (a : Option Addr) (len cap : Nat) (w : World) (h : (1048576 : Int) < len) :
    Calls Try.prog 4 #[.slice a len cap] w fun e w' => e = .returned (.bool true) ∧ Below w.heap.size w w' := by
  have hd : decide ((1048576 : Int) < len) = true := by simpa using h
  go_enter Try.func4, Try.ntmps4
  go_wp2_with fail
  refine (big_any a len cap _).mono ?_
  rintro e w' ⟨rfl, hw⟩
  subst w'
  rw [hd]
  go_wp2
  go_ret
  exact ⟨rfl, Below.refl _ _⟩

theorem carA {wr w7 : World} {o : Obj} {x y z : Value} (h : Below (wr.alloc o).drew.heap.size (wr.alloc o).drew w7) : Below wr.heap.size wr (((w7.setCell ⟨wr.heap.size, 0, none⟩ x).setCell ⟨wr.heap.size, 1, none⟩ y).setCell ⟨wr.heap.size, 2, none⟩ z) := by
  have b1 : Below wr.heap.size wr (wr.alloc o).drew := (bel1 (w := wr) o).trans (bel0d' 1)
  exact (((b1.trans (h.mono b1.size)).setCell (p := ⟨wr.heap.size, 0, none⟩) (Nat.le_refl _) x).setCell (p := ⟨wr.heap.size, 1, none⟩) (Nat.le_refl _) y).setCell (p := ⟨wr.heap.size, 2, none⟩) (Nat.le_refl _) z
theorem carB {wr w7 : World} {o : Obj} (h : Below wr.drew.heap.size wr.drew w7) : Below wr.heap.size wr (w7.alloc o) := by
  have b1 : Below wr.heap.size wr w7 := (bel0d' (w := wr) 1).trans h
  exact b1.alloc b1.size o
set_option maxRecDepth 20000 in
set_option maxHeartbeats 8000000 in
theorem lawFnCarried_small (a : Option Addr) (len cap : Nat) (w : World) (h : ¬ (1048576 : Int) < len) (hb : Bytes w a len) (hin : ∀ b off, a = some ⟨b, off, none⟩ → b < w.heap.size) :
    Calls Try.prog 4 #[.slice a len cap] w fun e w' => e = .returned (.bool true) ∧ Below w.heap.size w w' := by
  have hd0 : decide ((1048576 : Int) < len) = false := by simpa using h
  have DRA := hide (drawFleet_any a len cap w hb hin)
  clear hb h hin
  go_enter Try.func4, Try.ntmps4
  go_wp2_with fail
  refine (big_any a len cap _).mono ?_
  rintro e w' ⟨rfl, hw⟩
  subst w'
  rw [hd0]
  go_wp2_with fail
  refine (unhide DRA).mono ?_
  rintro e w3 ⟨a1, a2, a3, e1, e2, e3, f, gl, nl, cl, es, rfl, o3, _, _, hf, _, b3⟩
  have FT := hide (flB_fit hf)
  obtain ⟨hlt1, hlc1, hld1⟩ := flB_len hf
  obtain ⟨nt, hnt⟩ : ∃ nt, f.ts.length = nt := ⟨_, rfl⟩
  obtain ⟨nc, hnc⟩ : ∃ nc, f.cs.length = nc := ⟨_, rfl⟩
  obtain ⟨nd, hnd⟩ : ∃ nd, f.ds.length = nd := ⟨_, rfl⟩
  rw [hnt] at hlt1
  rw [hnc] at hlc1
  rw [hnd] at hld1
  rw [hnt, hnc, hnd] at o3 ⊢
  obtain ⟨V3, hV3⟩ : ∃ V, V = w3.alloc (Obj.cells #[.slice a1 nt e1, .slice a2 nc e2, .slice a3 nd e3, .int .i64 f.nh, .int .i64 f.nc, .int .i64 f.nd] 30) := ⟨_, rfl⟩
  have bV : Below w3.heap.size w3 V3 := by rw [hV3]; exact bel1 _
  obtain ⟨B, hB⟩ : ∃ B, w3.heap.size = B := ⟨_, rfl⟩
  have KF := hide (show Blk V3 B [.slice a1 nt e1, .slice a2 nc e2, .slice a3 nd e3, .int .i64 f.nh, .int .i64 f.nc, .int .i64 f.nd] from (by rw [hV3, ← hB]; exact Blk.new _ _))
  have FI := hide (o3.read.below bV)
  have B3 := hide (b3.trans (bV.mono b3.size))
  have HV3 := hide hV3
  have HF := hide hf
  have HNT := hide hnt
  have HNC := hide hnc
  have HND := hide hnd
  obtain ⟨X, hX⟩ : ∃ X, (rlR f).1 = X := ⟨_, rfl⟩
  obtain ⟨S, hS⟩ : ∃ S, (rlR f).2 = S := ⟨_, rfl⟩
  obtain ⟨nm, hnm⟩ : ∃ nm, (nxR f).1 = nm := ⟨_, rfl⟩
  obtain ⟨lf, hlf⟩ : ∃ lf, (nxR f).2.1 = lf := ⟨_, rfl⟩
  obtain ⟨ok, hok⟩ : ∃ ok, (nxR f).2.2 = ok := ⟨_, rfl⟩
  have CI : Hid (∀ V, FlIn V a1 a2 a3 nt nc nd f.ts f.cs f.ds → Calls Try.prog 12 #[.agg #[.slice a1 nt e1, .slice a2 nc e2, .slice a3 nd e3, .int .i64 f.nh, .int .i64 f.nc, .int .i64 f.nd]] V fun e w' => e = .returned (.tuple #[.int .i64 X, .string S]) ∧ Below V.heap.size V w') := hide (fun V hV => by rw [← hX, ← hS]; exact implRelease_any _ _ _ a1 a2 a3 nt e1 nc e2 nd e3 _ _ _ V hV (unhide FT).t (unhide FT).c (unhide FT).d)
  have CS : Hid (∀ V, FlIn V a1 a2 a3 nt nc nd f.ts f.cs f.ds → Calls Try.prog 17 #[.agg #[.slice a1 nt e1, .slice a2 nc e2, .slice a3 nd e3, .int .i64 f.nh, .int .i64 f.nc, .int .i64 f.nd]] V fun e w' => e = .returned (.tuple #[.int .i64 X, .string S]) ∧ Below V.heap.size V w') := hide (fun V hV => by rw [← hX, ← hS]; exact specRelease_any _ _ _ a1 a2 a3 nt e1 nc e2 nd e3 _ _ _ V hV (unhide FT).t (unhide FT).c (unhide FT).d)
  have CN : Hid (∀ V, FlIn V a1 a2 a3 nt nc nd f.ts f.cs f.ds → Calls Try.prog 18 #[.agg #[.slice a1 nt e1, .slice a2 nc e2, .slice a3 nd e3, .int .i64 f.nh, .int .i64 f.nc, .int .i64 f.nd]] V fun e w' => e = .returned (.tuple #[.string nm, .int .i64 lf, .bool ok]) ∧ Below V.heap.size V w') := hide (fun V hV => by rw [← hnm, ← hlf, ← hok]; exact implNextDue_any _ _ _ a1 a2 a3 nt e1 nc e2 nd e3 _ _ _ V hV (unhide FT).t (unhide FT).c (unhide FT).d)
  have NL := hide (nx_law hf)
  rw [hnm, hlf, hok, hnt] at NL
  have TK : Hid (∀ i, i < nt → d9B (elAt f.ts i) f.nh f.nc f.nd = true) := hide (fun i hi => (fl_task hf (by rw [hnt]; exact hi)).1)
  have RF : Hid (X = 0 → (∀ i, i < nt → d9D (elAt f.ts i) f.nh f.nc f.nd = false) ∧ ∀ i, i < nd → onK f (elAt f.ds i) nc = true) := hide (fun h => ⟨fun i hi => (rl_free (hX.trans h)).2.1 i (by rw [hnt]; exact hi), fun i hi => by have k := on_yes (hX.trans h) (i := i) (by rw [hnd]; exact hi); rw [hnc] at k; exact k⟩)
  clear hV3 bV o3 hf b3 hnt hnc hnd hX hS hnm hlf hok DRA
  go_upto_region 4 with fail
  rw [← unhide HV3]
  clear HV3 hB
  go_wp2_with (((with_reducible show wpList _ _ _ (⟨_, .load 30 _, _, _, _, none⟩ :: _) _ _); refine at_loadAgg (vs := [.slice a1 nt e1, .slice a2 nc e2, .slice a3 nd e3, .int .i64 f.nh, .int .i64 f.nc, .int .i64 f.nd]) Try.isAgg30 Try.sizeOf30 rfl (unhide KF) ?_))
  refine ((unhide CI) _ (unhide FI)).mono ?_
  rintro e w4 ⟨rfl, b4⟩
  have KF4 := hide ((unhide KF).below b4)
  have FI4 := hide ((unhide FI).below b4)
  have B4 := hide ((unhide B3).trans (b4.mono (unhide B3).size))
  clear b4 KF FI B3 CI
  go_wp2_with (((with_reducible show wpList _ _ _ (⟨_, .load 30 _, _, _, _, none⟩ :: _) _ _); refine at_loadAgg (vs := [.slice a1 nt e1, .slice a2 nc e2, .slice a3 nd e3, .int .i64 f.nh, .int .i64 f.nc, .int .i64 f.nd]) Try.isAgg30 Try.sizeOf30 rfl (unhide KF4) ?_))
  refine ((unhide CS) _ (unhide FI4)).mono ?_
  rintro e w5 ⟨rfl, b5⟩
  have KF5 := hide ((unhide KF4).below b5)
  have FI5 := hide ((unhide FI4).below b5)
  have B5 := hide ((unhide B4).trans (b5.mono (unhide B4).size))
  clear b5 KF4 FI4 B4 CS
  go_wp2_with (((with_reducible show wpList _ _ _ (⟨_, .load 30 _, _, _, _, none⟩ :: _) _ _); refine at_loadAgg (vs := [.slice a1 nt e1, .slice a2 nc e2, .slice a3 nd e3, .int .i64 f.nh, .int .i64 f.nc, .int .i64 f.nd]) Try.isAgg30 Try.sizeOf30 rfl (unhide KF5) ?_))
  refine ((unhide CN) _ (unhide FI5)).mono ?_
  rintro e w6 ⟨rfl, b6⟩
  have KF6 := hide ((unhide KF5).below b6)
  have FI6 := hide ((unhide FI5).below b6)
  have B6 := hide ((unhide B5).trans (b6.mono (unhide B5).size))
  clear b6 KF5 FI5 B5 CN
  go_wp2_with fail
  go_loopw [12] (fun i wr => ∃ k : Nat, i = .int .i64 k ∧ k ≤ nt ∧ Below w6.heap.size w6 wr) (fun i _ => nt - (intOf i).toNat)
  case atStart => exact ⟨0, rfl, Nat.zero_le _, Below.refl _ _⟩
  case round =>
    obtain ⟨k, rfl, hk, hbel⟩ := hrel
    have c0 : wr.cell? ⟨B, 0, none⟩ = some (.slice a1 nt e1) := ((unhide KF6).below hbel).c 0 (by simp)
    have BWR := hide hbel
    by_cases hlt : k < nt
    · have i0 : (0 : Int) ≤ (k : Int) := by omega
      have i1 : (k : Int) < (nt : Int) := by omega
      have KW := (unhide KF6).below hbel
      have n5 : wr.cell? ⟨B, 3, none⟩ = some (.int .i64 f.nh) := KW.c 3 (by simp)
      have n6 : wr.cell? ⟨B, 4, none⟩ = some (.int .i64 f.nc) := KW.c 4 (by simp)
      have n7 : wr.cell? ⟨B, 5, none⟩ = some (.int .i64 f.nd) := KW.c 5 (by simp)
      obtain ⟨b1, o1, rfl, hc⟩ := ((unhide FI6).below hbel).r1.at_ k hlt
      have HDB := hide ((unhide TK) k hlt)
      have HN1 := hide ((unhide NL).2.1 k hlt)
      have HN2 := hide ((unhide NL).2.2 k hlt)
      have HRX : Hid (X = 0 → d9D (elAt f.ts k) f.nh f.nc f.nd = false) := hide (fun h => ((unhide RF) h).1 k hlt)
      have HSZ := hide ((unhide FT).t k)
      obtain ⟨t, ht⟩ : ∃ t, elAt f.ts k = t := ⟨_, rfl⟩
      rw [ht] at hc HDB HN1 HN2 HRX HSZ
      have q0 : wr.cell? ⟨b1, o1 + k * 7, none⟩ = some (.string t.nm) := hc 0 (by omega)
      have q1 : wr.cell? ⟨b1, o1 + k * 7 + 1, none⟩ = some (.int .i64 t.h) := hc 1 (by omega)
      have q2 : wr.cell? ⟨b1, o1 + k * 7 + 2, none⟩ = some (.int .i64 t.c) := hc 2 (by omega)
      have q3 : wr.cell? ⟨b1, o1 + k * 7 + 3, none⟩ = some (.int .i64 t.d) := hc 3 (by omega)
      have q4 : wr.cell? ⟨b1, o1 + k * 7 + 4, none⟩ = some (.int .i64 t.dh) := hc 4 (by omega)
      have q5 : wr.cell? ⟨b1, o1 + k * 7 + 5, none⟩ = some (.int .i64 t.dc) := hc 5 (by omega)
      have q6 : wr.cell? ⟨b1, o1 + k * 7 + 6, none⟩ = some (.int .i64 t.dd) := hc 6 (by omega)
      clear hc ht KW
      obtain ⟨D, hD⟩ : ∃ D, d9D t f.nh f.nc f.nd = D := ⟨_, rfl⟩
      obtain ⟨H9, hH9⟩ : ∃ H9, d9H t f.nh f.nc f.nd = H9 := ⟨_, rfl⟩
      obtain ⟨C9, hC9⟩ : ∃ C9, d9C t f.nh f.nc f.nd = C9 := ⟨_, rfl⟩
      obtain ⟨E9, hE9⟩ : ∃ E9, d9E t f.nh f.nc f.nd = E9 := ⟨_, rfl⟩
      have CD : Hid (∀ V, Calls Try.prog 14 #[.agg #[.string t.nm, .int .i64 t.h, .int .i64 t.c, .int .i64 t.d, .int .i64 t.dh, .int .i64 t.dc, .int .i64 t.dd], .agg #[.int .i64 f.nh, .int .i64 f.nc, .int .i64 f.nd]] V fun e w' => e = .returned (.tuple #[.bool D, .agg #[.int .i64 H9, .int .i64 C9, .int .i64 E9], .bool true]) ∧ Below V.heap.size V w') := hide (fun V => by rw [← hD, ← hH9, ← hC9, ← hE9, ← unhide HDB]; exact implDue19_any t.nm t.h t.c t.d t.dh t.dc t.dd f.nh f.nc f.nd V (unhide HSZ))
      rw [hD] at HN1 HN2 HRX
      rw [hC9] at HN1 HN2
      clear hD hH9 hC9 hE9 HDB HSZ
      have m0 : ∀ o, (wr.alloc o).cell? ⟨B, 0, none⟩ = some (.slice (some ⟨b1, o1, none⟩) nt e1) := fun o => ((bel1 (w := wr) o).cell (block_lt_of_cell c0)).trans c0
      have m1 : ∀ o, (wr.alloc o).cell? ⟨B, 3, none⟩ = some (.int .i64 f.nh) := fun o => ((bel1 (w := wr) o).cell (block_lt_of_cell n5)).trans n5
      have m2 : ∀ o, (wr.alloc o).cell? ⟨B, 4, none⟩ = some (.int .i64 f.nc) := fun o => ((bel1 (w := wr) o).cell (block_lt_of_cell n6)).trans n6
      have m3 : ∀ o, (wr.alloc o).cell? ⟨B, 5, none⟩ = some (.int .i64 f.nd) := fun o => ((bel1 (w := wr) o).cell (block_lt_of_cell n7)).trans n7
      have m4 : ∀ o, (wr.alloc o).cell? ⟨b1, o1 + k * 7, none⟩ = some (.string t.nm) := fun o => ((bel1 (w := wr) o).cell (block_lt_of_cell q0)).trans q0
      have m5 : ∀ o, (wr.alloc o).cell? ⟨b1, o1 + k * 7 + 1, none⟩ = some (.int .i64 t.h) := fun o => ((bel1 (w := wr) o).cell (block_lt_of_cell q1)).trans q1
      have m6 : ∀ o, (wr.alloc o).cell? ⟨b1, o1 + k * 7 + 2, none⟩ = some (.int .i64 t.c) := fun o => ((bel1 (w := wr) o).cell (block_lt_of_cell q2)).trans q2
      have m7 : ∀ o, (wr.alloc o).cell? ⟨b1, o1 + k * 7 + 3, none⟩ = some (.int .i64 t.d) := fun o => ((bel1 (w := wr) o).cell (block_lt_of_cell q3)).trans q3
      have m8 : ∀ o, (wr.alloc o).cell? ⟨b1, o1 + k * 7 + 4, none⟩ = some (.int .i64 t.dh) := fun o => ((bel1 (w := wr) o).cell (block_lt_of_cell q4)).trans q4
      have m9 : ∀ o, (wr.alloc o).cell? ⟨b1, o1 + k * 7 + 5, none⟩ = some (.int .i64 t.dc) := fun o => ((bel1 (w := wr) o).cell (block_lt_of_cell q5)).trans q5
      have m10 : ∀ o, (wr.alloc o).cell? ⟨b1, o1 + k * 7 + 6, none⟩ = some (.int .i64 t.dd) := fun o => ((bel1 (w := wr) o).cell (block_lt_of_cell q6)).trans q6
      go_wp2_with fail
      go_cut [13, 14, 15] from 57 to 68 (fun s13 s14 s15 wc => ∃ P : Nat, s13 = .bool D ∧ s14 = .pointer (some ⟨P, 0, none⟩) ∧ s15 = .bool true ∧ wc.cell? ⟨P, 1, none⟩ = some (.int .i64 C9) ∧ Below wr.heap.size wr wc)
      case first =>
        go_region_law ((fail_if_success have := D1); go_simp; go_wp2_with (go_at_call 14; refine ((unhide CD) _).mono ?_; rintro e w7 ⟨rfl, b7⟩; have D1 := trivial; (first | (have nb := (Blk.new (w := wr) [.int .i64 0, .int .i64 0, .int .i64 0] 28).below b7; have y0 : w7.cell? ⟨wr.heap.size, 0, none⟩ = some (.int .i64 0) := nb.c 0 (by simp); have y1 : w7.cell? ⟨wr.heap.size, 1, none⟩ = some (.int .i64 0) := nb.c 1 (by simp); have y2 : w7.cell? ⟨wr.heap.size, 2, none⟩ = some (.int .i64 0) := nb.c 2 (by simp); have z0 : w7.frozen? ⟨wr.heap.size, 0, none⟩ = false := nb.f 0 (by simp); have z1 : w7.frozen? ⟨wr.heap.size, 1, none⟩ = false := nb.f 1 (by simp); have z2 : w7.frozen? ⟨wr.heap.size, 2, none⟩ = false := nb.f 2 (by simp); clear nb) | (have nb := ((Blk.new (w := wr) [.int .i64 0, .int .i64 0, .int .i64 0] 28).below (bel0d 1)).below b7; have y0 : w7.cell? ⟨wr.heap.size, 0, none⟩ = some (.int .i64 0) := nb.c 0 (by simp); have y1 : w7.cell? ⟨wr.heap.size, 1, none⟩ = some (.int .i64 0) := nb.c 1 (by simp); have y2 : w7.cell? ⟨wr.heap.size, 2, none⟩ = some (.int .i64 0) := nb.c 2 (by simp); have z0 : w7.frozen? ⟨wr.heap.size, 0, none⟩ = false := nb.f 0 (by simp); have z1 : w7.frozen? ⟨wr.heap.size, 1, none⟩ = false := nb.f 1 (by simp); have z2 : w7.frozen? ⟨wr.heap.size, 2, none⟩ = false := nb.f 2 (by simp); clear nb) | skip); have B7 := hide b7; clear b7))
        all_goals (
          go_wp2
          go_meet
          case rel => first
            | exact ⟨_, rfl, rfl, rfl, by simp [go_sem, *], carA (unhide B7)⟩
            | exact ⟨_, rfl, rfl, rfl, by simp [go_sem], carB (unhide B7)⟩)
      case rest =>
        obtain ⟨P, rfl, rfl, rfl, p1, bb⟩ := hcut
        have x0 : wc.cell? ⟨B, 0, none⟩ = some (.slice (some ⟨b1, o1, none⟩) nt e1) := (bb.cell (block_lt_of_cell c0)).trans c0
        have x1 : wc.cell? ⟨b1, o1 + k * 7, none⟩ = some (.string t.nm) := (bb.cell (block_lt_of_cell q0)).trans q0
        have x2 : wc.cell? ⟨b1, o1 + k * 7 + 2, none⟩ = some (.int .i64 t.c) := (bb.cell (block_lt_of_cell q2)).trans q2
        have BWC := hide ((unhide BWR).trans (bb.mono (unhide BWR).size))
        obtain ⟨tn, htn⟩ : ∃ tn, t.nm = tn := ⟨_, rfl⟩
        obtain ⟨tc, htc⟩ : ∃ tc, t.c = tc := ⟨_, rfl⟩
        rw [htn] at x1 HN1
        rw [htc] at x2 HN2
        clear bb c0 n5 n6 n7 q0 q1 q2 q3 q4 q5 q6 m0 m1 m2 m3 m4 m5 m6 m7 m8 m9 m10 CD htn htc BWR
        cases D
        · by_cases hne : tn = nm
          · obtain ⟨hk1, _, hk2⟩ := (unhide HN1) hne
            subst hne
            subst hk1
            subst hk2
            have d1 : decide (C9 < C9) = false := by simp
            by_cases htc0 : 0 < tc
            · have d2 : decide (0 < tc) = true := by simpa using htc0
              clear HN1 HN2 HRX htc0
              go_wp2_with fail
              go_roundw
              case rel => exact ⟨k + 1, by go_num, by omega, unhide BWC⟩
              case measure => simp [intOf]; omega
            · have d2 : decide (0 < tc) = false := by simpa using htc0
              clear HN1 HN2 HRX htc0
              go_wp2_with fail
              go_roundw
              case rel => exact ⟨k + 1, by go_num, by omega, unhide BWC⟩
              case measure => simp [intOf]; omega
          · have d := txl_no hne
            cases ok
            · clear HN1 HN2 HRX hne
              go_wp2_with fail
              go_roundw
              case rel => exact ⟨k + 1, by go_num, by omega, unhide BWC⟩
              case measure => simp [intOf]; omega
            · by_cases htc0 : 0 < tc
              · have d2 : decide (0 < tc) = true := by simpa using htc0
                have d1 : decide (C9 < lf) = false := by have := (unhide HN2) rfl rfl htc0; simp; omega
                clear HN1 HN2 HRX htc0 hne
                go_wp2_with fail
                go_roundw
                case rel => exact ⟨k + 1, by go_num, by omega, unhide BWC⟩
                case measure => simp [intOf]; omega
              · have d2 : decide (0 < tc) = false := by simpa using htc0
                clear HN1 HN2 HRX htc0 hne
                go_wp2_with fail
                go_roundw
                case rel => exact ⟨k + 1, by go_num, by omega, unhide BWC⟩
                case measure => simp [intOf]; omega
        · have hX0 : X ≠ 0 := fun e => by have := (unhide HRX) e; cases this
          have e0 : (X == 0) = false := by rw [beq_eq_false_iff_ne]; exact hX0
          have hne : ¬ tn = nm := fun e => by have := ((unhide HN1) e).2.1; cases this
          have d := txl_no hne
          clear HN1 HN2 HRX hX0 hne
          cases ok
          all_goals
            go_wp2_with fail
            go_roundw
            case rel => exact ⟨k + 1, by go_num, by omega, unhide BWC⟩
            case measure => simp [intOf]; omega
    · have i1 : ¬ (k : Int) < (nt : Int) := by omega
      obtain ⟨U, hU⟩ : ∃ U, U = wr := ⟨_, rfl⟩
      have KFU := hide ((unhide KF6).below hbel)
      have FIU := hide ((unhide FI6).below hbel)
      have BU := hide ((unhide B6).trans (hbel.mono (unhide B6).size))
      rw [← hU] at KFU FIU BU c0 ⊢
      clear hU hbel BWR KF6 FI6 B6
      go_wp2_with fail
      go_loopw [16] (fun i wr => ∃ k : Nat, i = .int .i64 k ∧ k ≤ nd ∧ Below U.heap.size U wr) (fun i _ => nd - (intOf i).toNat)
      case atStart => exact ⟨0, rfl, Nat.zero_le _, Below.refl _ _⟩
      case round =>
        obtain ⟨k, rfl, hk, hbel⟩ := hrel
        have KW := (unhide KFU).below hbel
        have s2 : wr.cell? ⟨B, 2, none⟩ = some (.slice a3 nd e3) := KW.c 2 (by simp)
        have BWD := hide ((unhide BU).trans (hbel.mono (unhide BU).size))
        have HBL := hide hbel
        clear KW c0
        by_cases hlt : k < nd
        · have i0 : (0 : Int) ≤ (k : Int) := by omega
          have i2 : (k : Int) < (nd : Int) := by omega
          by_cases hX0 : X = 0
          · have ON := (unhide RF hX0).2 k hlt
            have hds : dkB f.nd (elAt f.ds k) = true := (listI_facts (flB_facts (unhide HF)).2.2.2).2.1 k (by rw [unhide HND]; exact hlt)
            have hck := ckB_facts (flB_facts (unhide HF)).1
            obtain ⟨b3, o3, rfl, hc3⟩ := ((unhide FIU).below hbel).r3.at_ k hlt
            obtain ⟨d, hd⟩ : ∃ d, elAt f.ds k = d := ⟨_, rfl⟩
            rw [hd] at ON hds hc3
            have hsb : 0 ≤ d.s ∧ d.s ≤ f.nd := by simp only [dkB, inB, Bool.and_eq_true, decide_eq_true_eq] at hds; exact hds.2
            have hnb : 0 ≤ f.nd ∧ f.nd ≤ 1000000 := hck.2.2
            have t0 : wr.cell? ⟨b3, o3 + k * 3, none⟩ = some (.string d.n) := hc3 0 (by omega)
            have t2 : wr.cell? ⟨b3, o3 + k * 3 + 2, none⟩ = some (.int .i64 d.s) := hc3 2 (by omega)
            have HON := hide ON
            subst hX0
            clear hc3 hds hck ON hd hbel
            obtain ⟨U2, hU2⟩ : ∃ U2, U2 = wr := ⟨_, rfl⟩
            rw [← hU2] at HBL BWD t0 t2 s2 ⊢
            clear hU2
            go_wp2_with fail
            go_loopw [17, 18] (fun o i wr => ∃ m : Nat, o = .bool (onK f d m) ∧ i = .int .i64 m ∧ m ≤ nc ∧ Below U2.heap.size U2 wr) (fun _ i _ => nc - (intOf i).toNat)
            case atStart => exact ⟨0, rfl, rfl, Nat.zero_le _, Below.refl _ _⟩
            case round =>
              obtain ⟨m, rfl, rfl, hm, hb2⟩ := hrel
              have HB2 := hide hb2
              have HBLW := hide ((unhide HBL).trans (hb2.mono (unhide HBL).size))
              have KW := (unhide KFU).below (unhide HBLW)
              have g1 : wr.cell? ⟨B, 1, none⟩ = some (.slice a2 nc e2) := KW.c 1 (by simp)
              have g2 : wr.cell? ⟨B, 2, none⟩ = some (.slice (some ⟨b3, o3, none⟩) nd e3) := KW.c 2 (by simp)
              have g5 : wr.cell? ⟨B, 5, none⟩ = some (.int .i64 f.nd) := KW.c 5 (by simp)
              have h0 : wr.cell? ⟨b3, o3 + k * 3, none⟩ = some (.string d.n) := (hb2.cell (block_lt_of_cell t0)).trans t0
              have h2 : wr.cell? ⟨b3, o3 + k * 3 + 2, none⟩ = some (.int .i64 d.s) := (hb2.cell (block_lt_of_cell t2)).trans t2
              clear KW s2
              by_cases hml : m < nc
              · have m0 : (0 : Int) ≤ (m : Int) := by omega
                have m1 : (m : Int) < (nc : Int) := by omega
                obtain ⟨b2, o2, rfl, hc2⟩ := ((unhide FIU).below (unhide HBLW)).r2.at_ m hml
                have u0 : wr.cell? ⟨b2, o2 + m * 3, none⟩ = some (.string (elAt f.cs m).n) := hc2 0 (by omega)
                have u2 : wr.cell? ⟨b2, o2 + m * 3 + 2, none⟩ = some (.int .i64 (elAt f.cs m).d) := hc2 2 (by omega)
                have HST : Hid (onK f d (m + 1) = (onK f d m || (decide ((elAt f.cs m).n = d.n) && decide (f.nd - d.s ≤ (elAt f.cs m).d)))) := hide rfl
                obtain ⟨q, hq⟩ : ∃ q, elAt f.cs m = q := ⟨_, rfl⟩
                rw [hq] at u0 u2 HST
                obtain ⟨on, hon⟩ : ∃ on, onK f d m = on := ⟨_, rfl⟩
                rw [hon] at HST ⊢
                clear hc2 hq hon
                obtain ⟨ι, fW, _, hcb, hcl⟩ := belClass wr
                have HB := hide hcb
                have HA := hide hcl
                have r1 : ∀ x, (fW x).cell? ⟨B, 1, none⟩ = some (.slice (some ⟨b2, o2, none⟩) nc e2) := fun x => ((hcb x).cell (block_lt_of_cell g1)).trans g1
                have r2 : ∀ x, (fW x).cell? ⟨B, 2, none⟩ = some (.slice (some ⟨b3, o3, none⟩) nd e3) := fun x => ((hcb x).cell (block_lt_of_cell g2)).trans g2
                have r5 : ∀ x, (fW x).cell? ⟨B, 5, none⟩ = some (.int .i64 f.nd) := fun x => ((hcb x).cell (block_lt_of_cell g5)).trans g5
                have v0 : ∀ x, (fW x).cell? ⟨b3, o3 + k * 3, none⟩ = some (.string d.n) := fun x => ((hcb x).cell (block_lt_of_cell h0)).trans h0
                have v2 : ∀ x, (fW x).cell? ⟨b3, o3 + k * 3 + 2, none⟩ = some (.int .i64 d.s) := fun x => ((hcb x).cell (block_lt_of_cell h2)).trans h2
                have w0 : ∀ x, (fW x).cell? ⟨b2, o2 + m * 3, none⟩ = some (.string q.n) := fun x => ((hcb x).cell (block_lt_of_cell u0)).trans u0
                have w2 : ∀ x, (fW x).cell? ⟨b2, o2 + m * 3 + 2, none⟩ = some (.int .i64 q.d) := fun x => ((hcb x).cell (block_lt_of_cell u2)).trans u2
                obtain ⟨x0, hx0⟩ := hcl wr (Below.refl _ _)
                obtain ⟨qn, hqn⟩ : ∃ qn, q.n = qn := ⟨_, rfl⟩
                obtain ⟨qd, hqd⟩ : ∃ qd, q.d = qd := ⟨_, rfl⟩
                obtain ⟨dn, hdn⟩ : ∃ dn, d.n = dn := ⟨_, rfl⟩
                obtain ⟨ds, hdss⟩ : ∃ ds, d.s = ds := ⟨_, rfl⟩
                rw [hqn] at w0 HST
                rw [hqd] at w2 HST
                rw [hdn] at v0 HST
                rw [hdss] at v2 HST hsb
                rw [hx0]
                clear hx0 hcb hcl hqn hqd hdn hdss g1 g2 g5 h0 h2 u0 u2 hb2
                have HR : Hid (∀ y, Below U2.heap.size U2 (fW y)) := hide (fun y => (unhide HB2).trans ((unhide HB y).mono (unhide HB2).size))
                cases on
                · by_cases hne : qn = dn
                  · subst hne
                    by_cases hle : f.nd - ds ≤ qd
                    · have d1 : decide (f.nd - ds ≤ qd) = true := by simpa using hle
                      have HS2 : Hid (onK f d (m + 1) = true) := hide (by rw [unhide HST, d1]; simp)
                      clear hle HST
                      go_wp2_with fail
                      refine wp_region_bel (fun w' h => (unhide HA) w' ((unhide HB _).trans (h.mono (unhide HB _).size))) (by kernel_rfl) (by kernel_rfl) ?_
                      (repeat (go_big_quiet_step (fail)))
                      refine wpQuiet_nil ?_
                      rintro _ ⟨y, rfl⟩
                      go_wp2_with fail
                      go_roundw
                      case rel => exact ⟨m + 1, by rw [unhide HS2], by go_num, by omega, unhide HR y⟩
                      case measure => simp [intOf]; omega
                    · have d1 : decide (f.nd - ds ≤ qd) = false := by simpa using hle
                      have HS2 : Hid (onK f d (m + 1) = false) := hide (by rw [unhide HST, d1]; simp)
                      clear hle HST
                      go_wp2_with fail
                      refine wp_region_bel (fun w' h => (unhide HA) w' ((unhide HB _).trans (h.mono (unhide HB _).size))) (by kernel_rfl) (by kernel_rfl) ?_
                      (repeat (go_big_quiet_step (fail)))
                      refine wpQuiet_nil ?_
                      rintro _ ⟨y, rfl⟩
                      go_wp2_with fail
                      go_roundw
                      case rel => exact ⟨m + 1, by rw [unhide HS2], by go_num, by omega, unhide HR y⟩
                      case measure => simp [intOf]; omega
                  · have d1 := txl_no hne
                    have HS2 : Hid (onK f d (m + 1) = false) := hide (by rw [unhide HST, decide_eq_false hne]; simp)
                    clear hne HST
                    go_wp2_with fail
                    refine wp_region_bel (fun w' h => (unhide HA) w' ((unhide HB _).trans (h.mono (unhide HB _).size))) (by kernel_rfl) (by kernel_rfl) ?_
                    (repeat (go_big_quiet_step (fail)))
                    refine wpQuiet_nil ?_
                    rintro _ ⟨y, rfl⟩
                    go_wp2_with fail
                    go_roundw
                    case rel => exact ⟨m + 1, by rw [unhide HS2], by go_num, by omega, unhide HR y⟩
                    case measure => simp [intOf]; omega
                · have HS2 : Hid (onK f d (m + 1) = true) := hide (by rw [unhide HST]; simp)
                  clear HST
                  go_wp2_with fail
                  refine wp_region_bel (fun w' h => (unhide HA) w' ((unhide HB _).trans (h.mono (unhide HB _).size))) (by kernel_rfl) (by kernel_rfl) ?_
                  (repeat (go_big_quiet_step (fail)))
                  refine wpQuiet_nil ?_
                  rintro _ ⟨y, rfl⟩
                  go_wp2_with fail
                  go_roundw
                  case rel => exact ⟨m + 1, by rw [unhide HS2], by go_num, by omega, unhide HR y⟩
                  case measure => simp [intOf]; omega
              · have m1 : ¬ (m : Int) < (nc : Int) := by omega
                have hmn : m = nc := by omega
                have HO2 : Hid (onK f d m = true) := hide (by rw [hmn]; exact unhide HON)
                rw [unhide HO2]
                clear hmn
                go_wp2_with fail
                go_roundw
                case rel => exact ⟨k + 1, by go_num, by omega, unhide HBLW⟩
                case measure => simp [intOf]; omega
          · have e0 : (X == 0) = false := by rw [beq_eq_false_iff_ne]; exact hX0
            clear hbel hX0
            have NL1 := (unhide NL).1
            cases ok
            · have hnm : nm = ⟨#[]⟩ := by
                apply Classical.byContradiction
                intro e
                have := NL1.2 e
                cases this
              subst hnm
              clear NL1
              go_wp2_with fail
              go_ret
              exact ⟨rfl, unhide BWD⟩
            · have hnm : nm ≠ ⟨#[]⟩ := NL1.1 rfl
              have d := nz_list hnm
              clear NL1 hnm
              go_wp2_with fail
              go_ret
              exact ⟨rfl, unhide BWD⟩
        · have i2 : ¬ (k : Int) < (nd : Int) := by omega
          clear hbel
          have NL1 := (unhide NL).1
          cases ok
          · have hnm : nm = ⟨#[]⟩ := by
              apply Classical.byContradiction
              intro e
              have := NL1.2 e
              cases this
            subst hnm
            clear NL1
            go_wp2_with fail
            go_ret
            exact ⟨rfl, unhide BWD⟩
          · have hnm : nm ≠ ⟨#[]⟩ := NL1.1 rfl
            have d := nz_list hnm
            clear NL1 hnm
            go_wp2_with fail
            go_ret
            exact ⟨rfl, unhide BWD⟩

theorem lawFnCarried (a : Option Addr) (len cap : Nat) (w : World) (hb : Bytes w a len) (hin : ∀ b off, a = some ⟨b, off, none⟩ → b < w.heap.size) :
    Calls Try.prog 4 #[.slice a len cap] w fun e w' => e = .returned (.bool true) ∧ Below w.heap.size w w' := by
  by_cases h : (1048576 : Int) < len
  · exact lawFnCarried_big a len cap w h
  · exact lawFnCarried_small a len cap w h hb hin

end Go.Proofs.Ytfnnfldfnjnlfag
