/-
  The law FnTurned returns true at every list of bytes and writes nothing that was there: the walk. No condition.
-/
import Derived.Test.YtfahhjgpgccdhadAtFix
import Derived.Test.YtfahhjgpgccdhadMadeI
import Derived.Test.YtfahhjgpgccdhadTurnFacts
import Derived.Test.YtfahhjgpgccdhadTkIs
import Derived.Test.YtfahhjgpgccdhadPrImpl
import Derived.Test.YtfahhjgpgccdhadSomeE
import Derived.Deep.Cut
import Derived.Deep.CutRange
import Derived.Deep.RegionLaw
namespace Go.Proofs.Ytfahhjgpgccdhad
open Go.RowKit

set_option maxHeartbeats 1000000 in
theorem lawFnTurned_big (a : Option Addr) (len cap : Nat) (w : World) (h : (1048576 : Int) < len) :
    Calls Try.prog 8 #[.slice a len cap] w fun e w' => e = .returned (.bool true) ∧ Below w.heap.size w w' := by
  have hd : decide ((1048576 : Int) < len) = true := by simpa using h
  go_enter Try.func8, Try.ntmps8
  go_wp2_with fail
  refine (big_any a len cap _).mono ?_
  rintro e w' ⟨rfl, hw⟩
  subst w'
  rw [hd]
  go_wp2
  go_ret
  exact ⟨rfl, Below.refl _ _⟩

set_option maxRecDepth 20000 in
set_option maxHeartbeats 8000000 in
theorem lawFnTurned_small (a : Option Addr) (len cap : Nat) (w : World) (h : ¬ (1048576 : Int) < len) (hb : Bytes w a len) (_hin : ∀ b off, a = some ⟨b, off, none⟩ → b < w.heap.size) :
    Calls Try.prog 8 #[.slice a len cap] w fun e w' => e = .returned (.bool true) ∧ Below w.heap.size w w' := by
  have hd0 : decide ((1048576 : Int) < len) = false := by simpa using h
  obtain ⟨x0, hx0, hat0⟩ := at_fix a len cap 0 w hb (by omega) (by omega)
  obtain ⟨x1, hx1, hat1⟩ := at_fix a len cap 1 w hb (by omega) (by omega)
  obtain ⟨x2, hx2, hat2⟩ := at_fix a len cap 2 w hb (by omega) (by omega)
  have HAT0 := hide hat0
  have HAT1 := hide hat1
  have HAT2 := hide hat2
  obtain ⟨A, hA⟩ : ∃ A, (x0 * 3).tmod 360 = A := ⟨_, rfl⟩
  have hAe : x0 * 3 % 360 = A := by rw [← hA, Int.tmod_eq_emod_of_nonneg (by omega)]
  obtain ⟨B, hB⟩ : ∃ B, (x1 * 7).tmod 360 = B := ⟨_, rfl⟩
  have hBe : x1 * 7 % 360 = B := by rw [← hB, Int.tmod_eq_emod_of_nonneg (by omega)]
  obtain ⟨O, hO⟩ : ∃ O, 40 + x2 % 10 = O := ⟨_, rfl⟩
  have hOt : x2.tmod 10 = x2 % 10 := Int.tmod_eq_emod_of_nonneg (by omega)
  have bA : 0 ≤ A ∧ A ≤ 359 := by omega
  have bB : 0 ≤ B ∧ B ≤ 359 := by omega
  have bO : 40 ≤ O ∧ O ≤ 49 := by omega
  have HA := hide bA
  have HB := hide bB
  clear hat0 hat1 hat2 hb h
  go_enter Try.func8, Try.ntmps8
  go_wp2_with fail
  refine (big_any a len cap _).mono ?_
  rintro e w' ⟨rfl, hw⟩
  subst w'
  rw [hd0]
  go_wp2_with fail
  refine ((unhide HAT0) _ (Below.refl _ _)).mono ?_
  rintro e w' ⟨rfl, hw⟩
  subst w'
  go_wp2_with fail
  refine ((unhide HAT1) _ (Below.refl _ _)).mono ?_
  rintro e w' ⟨rfl, hw⟩
  subst w'
  go_wp2_with fail
  refine ((unhide HAT2) _ (Below.refl _ _)).mono ?_
  rintro e w' ⟨rfl, hw⟩
  subst w'
  go_wp2_with fail
  refine (implPress_any 0 0 0 0 0 A 0 O false 4 B _).mono ?_
  rintro e w1 ⟨rfl, b1⟩
  have e0 : prB ⟨0, 0, 0, 0, 0, A, 0, O, false⟩ 4 B = true := by simp [prB, apOk, inB]; omega
  have e1 : prP ⟨0, 0, 0, 0, 0, A, 0, O, false⟩ 4 B = ⟨0, 1, 0, 0, 0, A, B, O, false⟩ := by rw [prP_yes e0]; simp [prY]
  rw [e0, e1]
  dsimp only
  have K1 : Hid (Blk w1 w.heap.size [.int .i64 0, .int .i64 0, .int .i64 0, .int .i64 0, .int .i64 0, .int .i64 A, .int .i64 0, .int .i64 O, .bool false]) := hide ((Blk.new (w := w) [.int .i64 0, .int .i64 0, .int .i64 0, .int .i64 0, .int .i64 0, .int .i64 A, .int .i64 0, .int .i64 O, .bool false] 64).below b1)
  have L1 : Hid (Below w.heap.size w w1) := hide ((bel1 _).trans (b1.mono (by simp)))
  clear b1 e0 e1
  go_wp2_with (first
    | ((with_reducible show wpList _ _ _ (⟨none, .store 64 _ _, _, _, _, none⟩ :: _) _ _); refine at_storeAgg (us := [.int .i64 0, .int .i64 0, .int .i64 0, .int .i64 0, .int .i64 0, .int .i64 A, .int .i64 0, .int .i64 O, .bool false]) (vs := [.int .i64 0, .int .i64 1, .int .i64 0, .int .i64 0, .int .i64 0, .int .i64 A, .int .i64 B, .int .i64 O, .bool false]) Try.sizeOf64 rfl rfl (unhide K1) rfl (by simp [Value.oneCell']) ?_; intro U1 kk gg; have K1b := hide kk; have L1b : Hid (Below w.heap.size w U1) := hide ((unhide L1).grown gg (unhide L1).size (fun q hq => by cases hq; simp)); clear kk gg)
    | ((with_reducible show wpList _ _ _ (⟨_, .load 64 _, _, _, _, none⟩ :: _) _ _); refine at_loadAgg (vs := [.int .i64 0, .int .i64 1, .int .i64 0, .int .i64 0, .int .i64 0, .int .i64 A, .int .i64 B, .int .i64 O, .bool false]) Try.isAgg64 Try.sizeOf64 rfl (unhide K1b) ?_))
  refine (implPress_any 0 1 0 0 0 A B O false 5 0 _).mono ?_
  rintro e w2 ⟨rfl, b2⟩
  have e0 : prB ⟨0, 1, 0, 0, 0, A, B, O, false⟩ 5 0 = true := by simp [prB, apOk, inB]; omega
  have e1 : prP ⟨0, 1, 0, 0, 0, A, B, O, false⟩ 5 0 = ⟨0, 1, 0, 0, 0, A, B, O, true⟩ := by rw [prP_yes e0]; simp [prY]
  rw [e0, e1]
  dsimp only
  have K2 := hide ((unhide K1b).below b2)
  have L2 := hide ((unhide L1b).trans (b2.mono (unhide L1b).size))
  clear b2 e0 e1 K1 K1b L1 L1b
  go_wp2_with (first
    | ((with_reducible show wpList _ _ _ (⟨none, .store 64 _ _, _, _, _, none⟩ :: _) _ _); refine at_storeAgg (us := [.int .i64 0, .int .i64 1, .int .i64 0, .int .i64 0, .int .i64 0, .int .i64 A, .int .i64 B, .int .i64 O, .bool false]) (vs := [.int .i64 0, .int .i64 1, .int .i64 0, .int .i64 0, .int .i64 0, .int .i64 A, .int .i64 B, .int .i64 O, .bool true]) Try.sizeOf64 rfl rfl (unhide K2) rfl (by simp [Value.oneCell']) ?_; intro U2 kk gg; have K2b := hide kk; have L2b : Hid (Below w.heap.size w U2) := hide ((unhide L2).grown gg (unhide L2).size (fun q hq => by cases hq; simp)); have f1 : U2.cell? ⟨w.heap.size, 1, none⟩ = some (.int .i64 1) := (unhide K2b).c 1 (by simp); have f8 : U2.cell? ⟨w.heap.size, 8, none⟩ = some (.bool true) := (unhide K2b).c 8 (by simp); have f9 : U2.frozen? ⟨w.heap.size, 8, none⟩ = false := (unhide K2b).f 8 (by simp); clear kk gg))
  obtain ⟨Q, hQ⟩ : ∃ Q, Q = U2.setCell ⟨w.heap.size, 8, none⟩ (.bool false) := ⟨_, rfl⟩
  try rw [← hQ]
  have KQ : Hid (Blk Q w.heap.size [.int .i64 0, .int .i64 1, .int .i64 0, .int .i64 0, .int .i64 0, .int .i64 A, .int .i64 B, .int .i64 O, .bool false]) := hide (by rw [hQ]; simpa using (unhide K2b).set 8 (by simp) (.bool false))
  have LQ : Hid (Below w.heap.size w Q) := hide (by rw [hQ]; exact (unhide L2b).setCell (by simp) _)
  have HAP : Hid (apOk ⟨0, 1, 0, 0, 0, A, B, O, false⟩ = true) := hide (by simp [apOk, inB]; omega)
  clear hQ K2 K2b L2 L2b
  have MI : ∀ W : World, (Instr.makeSlice 26 (.int .i64 60) (.int .i64 60)).run Try.prog W = .ok (.slice (some ⟨W.heap.size, 0, none⟩) 60 60) (W.alloc (.cells (madeCells #[.int .i64 0] 60) 3)) := fun W => madeI_run (L := 60) (by omega) W
  have RM : Hid (Row (World.drew (Q.alloc (.cells (madeCells #[.int .i64 0] 60) 3))) (some ⟨Q.heap.size, 0, none⟩) 60 (List.replicate 60 0)) := hide ((madeI_row Q (by omega)).below (Below.refl _ _).drew)
  have BM : Hid (Below Q.heap.size Q (World.drew (Q.alloc (.cells (madeCells #[.int .i64 0] 60) 3)))) := hide (bel1 (w := Q) _).drew
  have q0 : Q.cell? ⟨w.heap.size, 0, none⟩ = some (.int .i64 0) := (unhide KQ).c 0 (by simp)
  have q1 : Q.cell? ⟨w.heap.size, 1, none⟩ = some (.int .i64 1) := (unhide KQ).c 1 (by simp)
  have q2 : Q.cell? ⟨w.heap.size, 2, none⟩ = some (.int .i64 0) := (unhide KQ).c 2 (by simp)
  have q3 : Q.cell? ⟨w.heap.size, 3, none⟩ = some (.int .i64 0) := (unhide KQ).c 3 (by simp)
  have q4 : Q.cell? ⟨w.heap.size, 4, none⟩ = some (.int .i64 0) := (unhide KQ).c 4 (by simp)
  have q5 : Q.cell? ⟨w.heap.size, 5, none⟩ = some (.int .i64 A) := (unhide KQ).c 5 (by simp)
  have q6 : Q.cell? ⟨w.heap.size, 6, none⟩ = some (.int .i64 B) := (unhide KQ).c 6 (by simp)
  have q7 : Q.cell? ⟨w.heap.size, 7, none⟩ = some (.int .i64 O) := (unhide KQ).c 7 (by simp)
  have q8 : Q.cell? ⟨w.heap.size, 8, none⟩ = some (.bool false) := (unhide KQ).c 8 (by simp)
  have r0 : ∀ o, (Q.alloc o).cell? ⟨w.heap.size, 0, none⟩ = some (.int .i64 0) := (fun o => ((unhide KQ).alloc o).c 0 (by simp))
  have r1 : ∀ o, (Q.alloc o).cell? ⟨w.heap.size, 1, none⟩ = some (.int .i64 1) := (fun o => ((unhide KQ).alloc o).c 1 (by simp))
  have r2 : ∀ o, (Q.alloc o).cell? ⟨w.heap.size, 2, none⟩ = some (.int .i64 0) := (fun o => ((unhide KQ).alloc o).c 2 (by simp))
  have r3 : ∀ o, (Q.alloc o).cell? ⟨w.heap.size, 3, none⟩ = some (.int .i64 0) := (fun o => ((unhide KQ).alloc o).c 3 (by simp))
  have r4 : ∀ o, (Q.alloc o).cell? ⟨w.heap.size, 4, none⟩ = some (.int .i64 0) := (fun o => ((unhide KQ).alloc o).c 4 (by simp))
  have r5 : ∀ o, (Q.alloc o).cell? ⟨w.heap.size, 5, none⟩ = some (.int .i64 A) := (fun o => ((unhide KQ).alloc o).c 5 (by simp))
  have r6 : ∀ o, (Q.alloc o).cell? ⟨w.heap.size, 6, none⟩ = some (.int .i64 B) := (fun o => ((unhide KQ).alloc o).c 6 (by simp))
  have r7 : ∀ o, (Q.alloc o).cell? ⟨w.heap.size, 7, none⟩ = some (.int .i64 O) := (fun o => ((unhide KQ).alloc o).c 7 (by simp))
  have r8 : ∀ o, (Q.alloc o).cell? ⟨w.heap.size, 8, none⟩ = some (.bool false) := (fun o => ((unhide KQ).alloc o).c 8 (by simp))
  go_cut [8, 9] from 56 to 61 (fun v b Wc => ∃ g c, v = .slice (some ⟨g, 0, none⟩) 60 c ∧ b = .bool true ∧ OwnE 9 plC Wc Q.heap.size 64 (.slice (some ⟨g, 0, none⟩) 60 c) (tkL ⟨0, 1, 0, 0, 0, A, B, O, false⟩ (List.replicate 60 0) 60) ∧ Below Q.heap.size Q Wc)
  case first =>
    go_region_law ((fail_if_success have := D1); go_simp; go_wp2_with (go_at_call 29; refine (implTicks_any _ _ _ _ _ _ _ _ _ _ _ _ _ _ (unhide RM)).mono ?_; rintro e u1 ⟨a9, c9, rfl, o9, b9⟩; rw [tkR_zero (unhide HAP) (by omega)] at o9; rw [tkR_zero (unhide HAP) (by omega), tkB_zero (unhide HAP) (by omega)]; have D1 := hide b9; rw [tkL_len] at o9; obtain ⟨g9, d9, e9, _, _⟩ := o9.some_ (fun e => by simp at e); rw [tkL_len] at e9; rw [e9] at o9; rw [tkL_len, e9]; have O9 := hide o9; clear o9 b9))
    all_goals
      go_wp2_with fail
      go_meet
      case rel => exact ⟨_, _, rfl, rfl, (unhide O9).mono (unhide BM).size, (unhide BM).trans ((unhide D1).mono (unhide BM).size)⟩
  case rest =>

    obtain ⟨g, c, hv8, hv9, oT, bT⟩ := hcut
    subst hv8
    subst hv9
    have K3 : Hid (Blk wc w.heap.size [.int .i64 0, .int .i64 1, .int .i64 0, .int .i64 0, .int .i64 0, .int .i64 A, .int .i64 B, .int .i64 O, .bool false]) := hide ((unhide KQ).below bT)
    have L3 : Hid (Below w.heap.size w wc) := hide ((unhide LQ).trans (bT.mono (unhide LQ).size))
    have TT : Hid (∀ j : Nat, j < 60 → dst A B ≤ 3 * ((j + 1 : Nat) : Int) → wc.cell? ⟨g, j * 9 + 5, none⟩ = some (.int .i64 B)) := hide (fun j hj hd => by
      have h := (oT.here (tkL_len _ _ _) j hj 5 (by omega)).1
      rw [tkL_at _ _ _ _ hj] at h
      have ht := tk_there (nthZ 60) (unhide HA) (unhide HB) (show 0 ≤ O ∧ O ≤ 100 by omega) (j + 1) hd
      rw [h]; simp only [plC]; rw [ht])
    have t59 : wc.cell? ⟨g, 536, none⟩ = some (.int .i64 B) := (unhide TT) 59 (by omega) (by have := dst_le A B; omega)
    have f8 : wc.cell? ⟨w.heap.size, 8, none⟩ = some (.bool false) := (unhide K3).c 8 (by simp)
    have f9 : wc.frozen? ⟨w.heap.size, 8, none⟩ = false := (unhide K3).f 8 (by simp)
    obtain ⟨d, hd⟩ : ∃ d, (B - A + 360).tmod 360 = d := ⟨_, rfl⟩
    have hde : (B - A + 360) % 360 = d := by rw [← hd, Int.tmod_eq_emod_of_nonneg (by omega)]
    have bd : 0 ≤ d ∧ d ≤ 359 := by omega
    have HD : Hid (dst A B = if 180 < d then 360 - d else d) := hide (by unfold dst; rw [show (B - A) % 360 = d by omega])
    have HAP2 : Hid (apOk ⟨0, 1, 0, 0, 0, A, B, O, true⟩ = true) := hide (by simp [apOk, inB]; omega)
    clear oT bT KQ LQ HAP q0 q1 q2 q3 q4 q5 q6 q7 q8 r0 r1 r2 r3 r4 r5 r6 r7 r8 MI RM BM
    have HC : (180 < d ∧ ∃ n : Nat, (360 - d + 2) / 3 = (n : Int) ∧ (360 - d + 2).tdiv 3 = (n : Int)) ∨ (¬ 180 < d ∧ ∃ n : Nat, (d + 2) / 3 = (n : Int) ∧ (d + 2).tdiv 3 = (n : Int)) := by
      by_cases h : 180 < d
      · exact .inl ⟨h, ((360 - d + 2) / 3).toNat, by omega, by rw [Int.tdiv_eq_ediv_of_nonneg (by omega)]; omega⟩
      · exact .inr ⟨h, ((d + 2) / 3).toNat, by omega, by rw [Int.tdiv_eq_ediv_of_nonneg (by omega)]; omega⟩
    rcases HC with ⟨h180, n, hn, hnt⟩ | ⟨h180, n, hn, hnt⟩
    all_goals
      have hdn : Hid (dst A B ≤ 3 * (n : Int)) := hide (by rw [unhide HD]; split <;> omega)
      rcases (show n = 0 ∨ (0 < n ∧ n < 60) ∨ 60 ≤ n by omega) with hz | ⟨hz, hz2⟩ | hz
      · first
        | omega
        | (have z1 : ¬ (0 : Int) < (n : Int) := by omega
           clear hz
           go_wp2_with fail
           obtain ⟨Q2, hQ2⟩ : ∃ Q2, Q2 = wc.setCell ⟨w.heap.size, 8, none⟩ (.bool true) := ⟨_, rfl⟩
           try rw [← hQ2]
           have KQ2 : Hid (Blk Q2 w.heap.size [.int .i64 0, .int .i64 1, .int .i64 0, .int .i64 0, .int .i64 0, .int .i64 A, .int .i64 B, .int .i64 O, .bool true]) := hide (by rw [hQ2]; simpa using (unhide K3).set 8 (by simp) (.bool true))
           have LQ2 : Hid (Below w.heap.size w Q2) := hide (by rw [hQ2]; exact (unhide L3).setCell (by simp) _)
           clear hQ2 t59 f8 f9
           have MI : ∀ W : World, (Instr.makeSlice 26 (.int .i64 20) (.int .i64 20)).run Try.prog W = .ok (.slice (some ⟨W.heap.size, 0, none⟩) 20 20) (W.alloc (.cells (madeCells #[.int .i64 0] 20) 3)) := fun W => madeI_run (L := 20) (by omega) W
           have RM : Hid (Row (World.drew (Q2.alloc (.cells (madeCells #[.int .i64 0] 20) 3))) (some ⟨Q2.heap.size, 0, none⟩) 20 (List.replicate 20 0)) := hide ((madeI_row Q2 (by omega)).below (Below.refl _ _).drew)
           have BM : Hid (Below Q2.heap.size Q2 (World.drew (Q2.alloc (.cells (madeCells #[.int .i64 0] 20) 3)))) := hide (bel1 (w := Q2) _).drew
           have q0 : Q2.cell? ⟨w.heap.size, 0, none⟩ = some (.int .i64 0) := (unhide KQ2).c 0 (by simp)
           have q1 : Q2.cell? ⟨w.heap.size, 1, none⟩ = some (.int .i64 1) := (unhide KQ2).c 1 (by simp)
           have q2 : Q2.cell? ⟨w.heap.size, 2, none⟩ = some (.int .i64 0) := (unhide KQ2).c 2 (by simp)
           have q3 : Q2.cell? ⟨w.heap.size, 3, none⟩ = some (.int .i64 0) := (unhide KQ2).c 3 (by simp)
           have q4 : Q2.cell? ⟨w.heap.size, 4, none⟩ = some (.int .i64 0) := (unhide KQ2).c 4 (by simp)
           have q5 : Q2.cell? ⟨w.heap.size, 5, none⟩ = some (.int .i64 A) := (unhide KQ2).c 5 (by simp)
           have q6 : Q2.cell? ⟨w.heap.size, 6, none⟩ = some (.int .i64 B) := (unhide KQ2).c 6 (by simp)
           have q7 : Q2.cell? ⟨w.heap.size, 7, none⟩ = some (.int .i64 O) := (unhide KQ2).c 7 (by simp)
           have q8 : Q2.cell? ⟨w.heap.size, 8, none⟩ = some (.bool true) := (unhide KQ2).c 8 (by simp)
           have r0 : ∀ o, (Q2.alloc o).cell? ⟨w.heap.size, 0, none⟩ = some (.int .i64 0) := (fun o => ((unhide KQ2).alloc o).c 0 (by simp))
           have r1 : ∀ o, (Q2.alloc o).cell? ⟨w.heap.size, 1, none⟩ = some (.int .i64 1) := (fun o => ((unhide KQ2).alloc o).c 1 (by simp))
           have r2 : ∀ o, (Q2.alloc o).cell? ⟨w.heap.size, 2, none⟩ = some (.int .i64 0) := (fun o => ((unhide KQ2).alloc o).c 2 (by simp))
           have r3 : ∀ o, (Q2.alloc o).cell? ⟨w.heap.size, 3, none⟩ = some (.int .i64 0) := (fun o => ((unhide KQ2).alloc o).c 3 (by simp))
           have r4 : ∀ o, (Q2.alloc o).cell? ⟨w.heap.size, 4, none⟩ = some (.int .i64 0) := (fun o => ((unhide KQ2).alloc o).c 4 (by simp))
           have r5 : ∀ o, (Q2.alloc o).cell? ⟨w.heap.size, 5, none⟩ = some (.int .i64 A) := (fun o => ((unhide KQ2).alloc o).c 5 (by simp))
           have r6 : ∀ o, (Q2.alloc o).cell? ⟨w.heap.size, 6, none⟩ = some (.int .i64 B) := (fun o => ((unhide KQ2).alloc o).c 6 (by simp))
           have r7 : ∀ o, (Q2.alloc o).cell? ⟨w.heap.size, 7, none⟩ = some (.int .i64 O) := (fun o => ((unhide KQ2).alloc o).c 7 (by simp))
           have r8 : ∀ o, (Q2.alloc o).cell? ⟨w.heap.size, 8, none⟩ = some (.bool true) := (fun o => ((unhide KQ2).alloc o).c 8 (by simp))
           go_cut [8, 9] from 106 to 111 (fun v b Wc => ∃ g c, v = .slice (some ⟨g, 0, none⟩) 20 c ∧ b = .bool true ∧ OwnE 9 plC Wc Q2.heap.size 64 (.slice (some ⟨g, 0, none⟩) 20 c) (tkL ⟨0, 1, 0, 0, 0, A, B, O, true⟩ (List.replicate 20 0) 20) ∧ Below Q2.heap.size Q2 Wc)
           case first =>
             go_region_law ((fail_if_success have := D1); go_simp; go_wp2_with (go_at_call 29; refine (implTicks_any _ _ _ _ _ _ _ _ _ _ _ _ _ _ (unhide RM)).mono ?_; rintro e u1 ⟨a9, c9, rfl, o9, b9⟩; rw [tkR_zero (unhide HAP2) (by omega)] at o9; rw [tkR_zero (unhide HAP2) (by omega), tkB_zero (unhide HAP2) (by omega)]; have D1 := hide b9; rw [tkL_len] at o9; obtain ⟨g9, d9, e9, _, _⟩ := o9.some_ (fun e => by simp at e); rw [tkL_len] at e9; rw [e9] at o9; rw [tkL_len, e9]; have O9 := hide o9; clear o9 b9))
             all_goals
               go_wp2_with fail
               go_meet
               case rel => exact ⟨_, _, rfl, rfl, (unhide O9).mono (unhide BM).size, (unhide BM).trans ((unhide D1).mono (unhide BM).size)⟩
           case rest =>

             obtain ⟨g2, c2, hv8, hv9, oT, bT⟩ := hcut
             subst hv8
             subst hv9
             have LE : Hid (Below w.heap.size w wc) := hide ((unhide LQ2).trans (bT.mono (unhide LQ2).size))
             obtain ⟨l0, h0, q0, e0, _, c0⟩ := tk_arm (nthZ 20) (unhide HA) (unhide HB) (show 0 < O ∧ O ≤ 50 by omega) 0
             obtain ⟨l1, h1, q1, e1, _, c1⟩ := tk_arm (nthZ 20) (unhide HA) (unhide HB) (show 0 < O ∧ O ≤ 50 by omega) 19
             have hl0 : l0 = 3 := by omega
             have hl1 : l1 = 2 ∧ q1 = 0 := by omega
             have i0 := oT.here (tkL_len _ _ _) 0 (by omega)
             have i1 := oT.here (tkL_len _ _ _) 19 (by omega)
             rw [tkL_at _ _ _ _ (by omega), e0, hl0] at i0
             rw [tkL_at _ _ _ _ (by omega), e1, hl1.1, hl1.2] at i1
             have s0 : wc.cell? ⟨g2, 1, none⟩ = some (.int .i64 3) := (i0 1 (by omega)).1
             have s1 : wc.cell? ⟨g2, 8, none⟩ = some (.bool false) := (i0 8 (by omega)).1
             have s2 : wc.cell? ⟨g2, 172, none⟩ = some (.int .i64 2) := (i1 1 (by omega)).1
             have s3 : wc.cell? ⟨g2, 178, none⟩ = some (.int .i64 0) := (i1 7 (by omega)).1
             clear i0 i1 e0 e1 c0 c1 hl0 hl1 oT bT
             go_wp2_with fail
             go_ret
             exact ⟨rfl, unhide LE⟩)
      · obtain ⟨j, hj⟩ : ∃ j, n = j + 1 := ⟨n - 1, by omega⟩
        have z1 : (0 : Int) < (n : Int) := by omega
        have z2 : (n : Int) < 60 := by omega
        have hsub : (n : Int) - 1 = (j : Int) := by omega
        have hwr : IntKind.i64.wrap (j : Int) = (j : Int) := by rw [IntKind.wrap_i64]; omega
        have hj0 : (0 : Int) ≤ (j : Int) := by omega
        have hj6 : (j : Int) < 60 := by omega
        have tj : wc.cell? ⟨g, j * 9 + 5, none⟩ = some (.int .i64 B) := (unhide TT) j (by omega) (by have := unhide hdn; rw [hj] at this; exact this)
        clear hz hz2 hj
        go_wp2_with fail
        obtain ⟨Q2, hQ2⟩ : ∃ Q2, Q2 = wc.setCell ⟨w.heap.size, 8, none⟩ (.bool true) := ⟨_, rfl⟩
        try rw [← hQ2]
        have KQ2 : Hid (Blk Q2 w.heap.size [.int .i64 0, .int .i64 1, .int .i64 0, .int .i64 0, .int .i64 0, .int .i64 A, .int .i64 B, .int .i64 O, .bool true]) := hide (by rw [hQ2]; simpa using (unhide K3).set 8 (by simp) (.bool true))
        have LQ2 : Hid (Below w.heap.size w Q2) := hide (by rw [hQ2]; exact (unhide L3).setCell (by simp) _)
        clear hQ2 t59 f8 f9
        have MI : ∀ W : World, (Instr.makeSlice 26 (.int .i64 20) (.int .i64 20)).run Try.prog W = .ok (.slice (some ⟨W.heap.size, 0, none⟩) 20 20) (W.alloc (.cells (madeCells #[.int .i64 0] 20) 3)) := fun W => madeI_run (L := 20) (by omega) W
        have RM : Hid (Row (World.drew (Q2.alloc (.cells (madeCells #[.int .i64 0] 20) 3))) (some ⟨Q2.heap.size, 0, none⟩) 20 (List.replicate 20 0)) := hide ((madeI_row Q2 (by omega)).below (Below.refl _ _).drew)
        have BM : Hid (Below Q2.heap.size Q2 (World.drew (Q2.alloc (.cells (madeCells #[.int .i64 0] 20) 3)))) := hide (bel1 (w := Q2) _).drew
        have q0 : Q2.cell? ⟨w.heap.size, 0, none⟩ = some (.int .i64 0) := (unhide KQ2).c 0 (by simp)
        have q1 : Q2.cell? ⟨w.heap.size, 1, none⟩ = some (.int .i64 1) := (unhide KQ2).c 1 (by simp)
        have q2 : Q2.cell? ⟨w.heap.size, 2, none⟩ = some (.int .i64 0) := (unhide KQ2).c 2 (by simp)
        have q3 : Q2.cell? ⟨w.heap.size, 3, none⟩ = some (.int .i64 0) := (unhide KQ2).c 3 (by simp)
        have q4 : Q2.cell? ⟨w.heap.size, 4, none⟩ = some (.int .i64 0) := (unhide KQ2).c 4 (by simp)
        have q5 : Q2.cell? ⟨w.heap.size, 5, none⟩ = some (.int .i64 A) := (unhide KQ2).c 5 (by simp)
        have q6 : Q2.cell? ⟨w.heap.size, 6, none⟩ = some (.int .i64 B) := (unhide KQ2).c 6 (by simp)
        have q7 : Q2.cell? ⟨w.heap.size, 7, none⟩ = some (.int .i64 O) := (unhide KQ2).c 7 (by simp)
        have q8 : Q2.cell? ⟨w.heap.size, 8, none⟩ = some (.bool true) := (unhide KQ2).c 8 (by simp)
        have r0 : ∀ o, (Q2.alloc o).cell? ⟨w.heap.size, 0, none⟩ = some (.int .i64 0) := (fun o => ((unhide KQ2).alloc o).c 0 (by simp))
        have r1 : ∀ o, (Q2.alloc o).cell? ⟨w.heap.size, 1, none⟩ = some (.int .i64 1) := (fun o => ((unhide KQ2).alloc o).c 1 (by simp))
        have r2 : ∀ o, (Q2.alloc o).cell? ⟨w.heap.size, 2, none⟩ = some (.int .i64 0) := (fun o => ((unhide KQ2).alloc o).c 2 (by simp))
        have r3 : ∀ o, (Q2.alloc o).cell? ⟨w.heap.size, 3, none⟩ = some (.int .i64 0) := (fun o => ((unhide KQ2).alloc o).c 3 (by simp))
        have r4 : ∀ o, (Q2.alloc o).cell? ⟨w.heap.size, 4, none⟩ = some (.int .i64 0) := (fun o => ((unhide KQ2).alloc o).c 4 (by simp))
        have r5 : ∀ o, (Q2.alloc o).cell? ⟨w.heap.size, 5, none⟩ = some (.int .i64 A) := (fun o => ((unhide KQ2).alloc o).c 5 (by simp))
        have r6 : ∀ o, (Q2.alloc o).cell? ⟨w.heap.size, 6, none⟩ = some (.int .i64 B) := (fun o => ((unhide KQ2).alloc o).c 6 (by simp))
        have r7 : ∀ o, (Q2.alloc o).cell? ⟨w.heap.size, 7, none⟩ = some (.int .i64 O) := (fun o => ((unhide KQ2).alloc o).c 7 (by simp))
        have r8 : ∀ o, (Q2.alloc o).cell? ⟨w.heap.size, 8, none⟩ = some (.bool true) := (fun o => ((unhide KQ2).alloc o).c 8 (by simp))
        go_cut [8, 9] from 106 to 111 (fun v b Wc => ∃ g c, v = .slice (some ⟨g, 0, none⟩) 20 c ∧ b = .bool true ∧ OwnE 9 plC Wc Q2.heap.size 64 (.slice (some ⟨g, 0, none⟩) 20 c) (tkL ⟨0, 1, 0, 0, 0, A, B, O, true⟩ (List.replicate 20 0) 20) ∧ Below Q2.heap.size Q2 Wc)
        case first =>
          go_region_law ((fail_if_success have := D1); go_simp; go_wp2_with (go_at_call 29; refine (implTicks_any _ _ _ _ _ _ _ _ _ _ _ _ _ _ (unhide RM)).mono ?_; rintro e u1 ⟨a9, c9, rfl, o9, b9⟩; rw [tkR_zero (unhide HAP2) (by omega)] at o9; rw [tkR_zero (unhide HAP2) (by omega), tkB_zero (unhide HAP2) (by omega)]; have D1 := hide b9; rw [tkL_len] at o9; obtain ⟨g9, d9, e9, _, _⟩ := o9.some_ (fun e => by simp at e); rw [tkL_len] at e9; rw [e9] at o9; rw [tkL_len, e9]; have O9 := hide o9; clear o9 b9))
          all_goals
            go_wp2_with fail
            go_meet
            case rel => exact ⟨_, _, rfl, rfl, (unhide O9).mono (unhide BM).size, (unhide BM).trans ((unhide D1).mono (unhide BM).size)⟩
        case rest =>

          obtain ⟨g2, c2, hv8, hv9, oT, bT⟩ := hcut
          subst hv8
          subst hv9
          have LE : Hid (Below w.heap.size w wc) := hide ((unhide LQ2).trans (bT.mono (unhide LQ2).size))
          obtain ⟨l0, h0, q0, e0, _, c0⟩ := tk_arm (nthZ 20) (unhide HA) (unhide HB) (show 0 < O ∧ O ≤ 50 by omega) 0
          obtain ⟨l1, h1, q1, e1, _, c1⟩ := tk_arm (nthZ 20) (unhide HA) (unhide HB) (show 0 < O ∧ O ≤ 50 by omega) 19
          have hl0 : l0 = 3 := by omega
          have hl1 : l1 = 2 ∧ q1 = 0 := by omega
          have i0 := oT.here (tkL_len _ _ _) 0 (by omega)
          have i1 := oT.here (tkL_len _ _ _) 19 (by omega)
          rw [tkL_at _ _ _ _ (by omega), e0, hl0] at i0
          rw [tkL_at _ _ _ _ (by omega), e1, hl1.1, hl1.2] at i1
          have s0 : wc.cell? ⟨g2, 1, none⟩ = some (.int .i64 3) := (i0 1 (by omega)).1
          have s1 : wc.cell? ⟨g2, 8, none⟩ = some (.bool false) := (i0 8 (by omega)).1
          have s2 : wc.cell? ⟨g2, 172, none⟩ = some (.int .i64 2) := (i1 1 (by omega)).1
          have s3 : wc.cell? ⟨g2, 178, none⟩ = some (.int .i64 0) := (i1 7 (by omega)).1
          clear i0 i1 e0 e1 c0 c1 hl0 hl1 oT bT
          go_wp2_with fail
          go_ret
          exact ⟨rfl, unhide LE⟩
      · have z1 : (0 : Int) < (n : Int) := by omega
        have z2 : ¬ (n : Int) < 60 := by omega
        clear hz
        go_wp2_with fail
        obtain ⟨Q2, hQ2⟩ : ∃ Q2, Q2 = wc.setCell ⟨w.heap.size, 8, none⟩ (.bool true) := ⟨_, rfl⟩
        try rw [← hQ2]
        have KQ2 : Hid (Blk Q2 w.heap.size [.int .i64 0, .int .i64 1, .int .i64 0, .int .i64 0, .int .i64 0, .int .i64 A, .int .i64 B, .int .i64 O, .bool true]) := hide (by rw [hQ2]; simpa using (unhide K3).set 8 (by simp) (.bool true))
        have LQ2 : Hid (Below w.heap.size w Q2) := hide (by rw [hQ2]; exact (unhide L3).setCell (by simp) _)
        clear hQ2 t59 f8 f9
        have MI : ∀ W : World, (Instr.makeSlice 26 (.int .i64 20) (.int .i64 20)).run Try.prog W = .ok (.slice (some ⟨W.heap.size, 0, none⟩) 20 20) (W.alloc (.cells (madeCells #[.int .i64 0] 20) 3)) := fun W => madeI_run (L := 20) (by omega) W
        have RM : Hid (Row (World.drew (Q2.alloc (.cells (madeCells #[.int .i64 0] 20) 3))) (some ⟨Q2.heap.size, 0, none⟩) 20 (List.replicate 20 0)) := hide ((madeI_row Q2 (by omega)).below (Below.refl _ _).drew)
        have BM : Hid (Below Q2.heap.size Q2 (World.drew (Q2.alloc (.cells (madeCells #[.int .i64 0] 20) 3)))) := hide (bel1 (w := Q2) _).drew
        have q0 : Q2.cell? ⟨w.heap.size, 0, none⟩ = some (.int .i64 0) := (unhide KQ2).c 0 (by simp)
        have q1 : Q2.cell? ⟨w.heap.size, 1, none⟩ = some (.int .i64 1) := (unhide KQ2).c 1 (by simp)
        have q2 : Q2.cell? ⟨w.heap.size, 2, none⟩ = some (.int .i64 0) := (unhide KQ2).c 2 (by simp)
        have q3 : Q2.cell? ⟨w.heap.size, 3, none⟩ = some (.int .i64 0) := (unhide KQ2).c 3 (by simp)
        have q4 : Q2.cell? ⟨w.heap.size, 4, none⟩ = some (.int .i64 0) := (unhide KQ2).c 4 (by simp)
        have q5 : Q2.cell? ⟨w.heap.size, 5, none⟩ = some (.int .i64 A) := (unhide KQ2).c 5 (by simp)
        have q6 : Q2.cell? ⟨w.heap.size, 6, none⟩ = some (.int .i64 B) := (unhide KQ2).c 6 (by simp)
        have q7 : Q2.cell? ⟨w.heap.size, 7, none⟩ = some (.int .i64 O) := (unhide KQ2).c 7 (by simp)
        have q8 : Q2.cell? ⟨w.heap.size, 8, none⟩ = some (.bool true) := (unhide KQ2).c 8 (by simp)
        have r0 : ∀ o, (Q2.alloc o).cell? ⟨w.heap.size, 0, none⟩ = some (.int .i64 0) := (fun o => ((unhide KQ2).alloc o).c 0 (by simp))
        have r1 : ∀ o, (Q2.alloc o).cell? ⟨w.heap.size, 1, none⟩ = some (.int .i64 1) := (fun o => ((unhide KQ2).alloc o).c 1 (by simp))
        have r2 : ∀ o, (Q2.alloc o).cell? ⟨w.heap.size, 2, none⟩ = some (.int .i64 0) := (fun o => ((unhide KQ2).alloc o).c 2 (by simp))
        have r3 : ∀ o, (Q2.alloc o).cell? ⟨w.heap.size, 3, none⟩ = some (.int .i64 0) := (fun o => ((unhide KQ2).alloc o).c 3 (by simp))
        have r4 : ∀ o, (Q2.alloc o).cell? ⟨w.heap.size, 4, none⟩ = some (.int .i64 0) := (fun o => ((unhide KQ2).alloc o).c 4 (by simp))
        have r5 : ∀ o, (Q2.alloc o).cell? ⟨w.heap.size, 5, none⟩ = some (.int .i64 A) := (fun o => ((unhide KQ2).alloc o).c 5 (by simp))
        have r6 : ∀ o, (Q2.alloc o).cell? ⟨w.heap.size, 6, none⟩ = some (.int .i64 B) := (fun o => ((unhide KQ2).alloc o).c 6 (by simp))
        have r7 : ∀ o, (Q2.alloc o).cell? ⟨w.heap.size, 7, none⟩ = some (.int .i64 O) := (fun o => ((unhide KQ2).alloc o).c 7 (by simp))
        have r8 : ∀ o, (Q2.alloc o).cell? ⟨w.heap.size, 8, none⟩ = some (.bool true) := (fun o => ((unhide KQ2).alloc o).c 8 (by simp))
        go_cut [8, 9] from 106 to 111 (fun v b Wc => ∃ g c, v = .slice (some ⟨g, 0, none⟩) 20 c ∧ b = .bool true ∧ OwnE 9 plC Wc Q2.heap.size 64 (.slice (some ⟨g, 0, none⟩) 20 c) (tkL ⟨0, 1, 0, 0, 0, A, B, O, true⟩ (List.replicate 20 0) 20) ∧ Below Q2.heap.size Q2 Wc)
        case first =>
          go_region_law ((fail_if_success have := D1); go_simp; go_wp2_with (go_at_call 29; refine (implTicks_any _ _ _ _ _ _ _ _ _ _ _ _ _ _ (unhide RM)).mono ?_; rintro e u1 ⟨a9, c9, rfl, o9, b9⟩; rw [tkR_zero (unhide HAP2) (by omega)] at o9; rw [tkR_zero (unhide HAP2) (by omega), tkB_zero (unhide HAP2) (by omega)]; have D1 := hide b9; rw [tkL_len] at o9; obtain ⟨g9, d9, e9, _, _⟩ := o9.some_ (fun e => by simp at e); rw [tkL_len] at e9; rw [e9] at o9; rw [tkL_len, e9]; have O9 := hide o9; clear o9 b9))
          all_goals
            go_wp2_with fail
            go_meet
            case rel => exact ⟨_, _, rfl, rfl, (unhide O9).mono (unhide BM).size, (unhide BM).trans ((unhide D1).mono (unhide BM).size)⟩
        case rest =>

          obtain ⟨g2, c2, hv8, hv9, oT, bT⟩ := hcut
          subst hv8
          subst hv9
          have LE : Hid (Below w.heap.size w wc) := hide ((unhide LQ2).trans (bT.mono (unhide LQ2).size))
          obtain ⟨l0, h0, q0, e0, _, c0⟩ := tk_arm (nthZ 20) (unhide HA) (unhide HB) (show 0 < O ∧ O ≤ 50 by omega) 0
          obtain ⟨l1, h1, q1, e1, _, c1⟩ := tk_arm (nthZ 20) (unhide HA) (unhide HB) (show 0 < O ∧ O ≤ 50 by omega) 19
          have hl0 : l0 = 3 := by omega
          have hl1 : l1 = 2 ∧ q1 = 0 := by omega
          have i0 := oT.here (tkL_len _ _ _) 0 (by omega)
          have i1 := oT.here (tkL_len _ _ _) 19 (by omega)
          rw [tkL_at _ _ _ _ (by omega), e0, hl0] at i0
          rw [tkL_at _ _ _ _ (by omega), e1, hl1.1, hl1.2] at i1
          have s0 : wc.cell? ⟨g2, 1, none⟩ = some (.int .i64 3) := (i0 1 (by omega)).1
          have s1 : wc.cell? ⟨g2, 8, none⟩ = some (.bool false) := (i0 8 (by omega)).1
          have s2 : wc.cell? ⟨g2, 172, none⟩ = some (.int .i64 2) := (i1 1 (by omega)).1
          have s3 : wc.cell? ⟨g2, 178, none⟩ = some (.int .i64 0) := (i1 7 (by omega)).1
          clear i0 i1 e0 e1 c0 c1 hl0 hl1 oT bT
          go_wp2_with fail
          go_ret
          exact ⟨rfl, unhide LE⟩

theorem lawFnTurned (a : Option Addr) (len cap : Nat) (w : World) (hb : Bytes w a len) (hin : ∀ b off, a = some ⟨b, off, none⟩ → b < w.heap.size) :
    Calls Try.prog 8 #[.slice a len cap] w fun e w' => e = .returned (.bool true) ∧ Below w.heap.size w w' := by
  by_cases h : (1048576 : Int) < len
  · exact lawFnTurned_big a len cap w h
  · exact lawFnTurned_small a len cap w h hb hin

end Go.Proofs.Ytfahhjgpgccdhad
