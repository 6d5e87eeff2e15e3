/-
  What a tick of the height answers in the program: as the plain function. At numbers within their bounds; nothing that was there is written.
-/
import Derived.Test.YtfahhjgpgccdhadApImpl
import Derived.Test.YtfahhjgpgccdhadThen
import Derived.Test.YtfahhjgpgccdhadBlks
import Derived.Test.YtfahhjgpgccdhadWhole
import Derived.Deep.Quiet
import Derived.Test.YtfahhjgpgccdhadGoto
import Derived.WalkMore
namespace Go.Proofs.Ytfahhjgpgccdhad
open Go.RowKit

theorem trip2 {a b c d e f : Int} (h : (a, b, c) = (d, e, f)) : a = d ∧ b = e ∧ c = f := by simp only [Prod.mk.injEq] at h; omega
theorem half_is (r : Int) : (if ((r.natAbs : Int) + 1) / 2 < 1 then 1 else ((r.natAbs : Int) + 1) / 2) = max 1 (((r.natAbs : Int) + 1).tdiv 2) := by rw [Int.tdiv_eq_ediv_of_nonneg (by omega)]; split <;> omega
set_option maxRecDepth 20000 in
set_option maxHeartbeats 3000000 in
theorem vertTick_off {V H R : Int} (l g t r a b o : Int) (m : Bool) (w : World) (hg : 0 ≤ g ∧ g ≤ 60000) (ht : 0 ≤ t ∧ t ≤ 60000) (hr : -100 ≤ r ∧ r ≤ 100) (hE : vtT 0 g t r = (V, H, R)) :
    Calls Try.prog 66 #[.agg #[.int .i64 0, .int .i64 l, .int .i64 g, .int .i64 t, .int .i64 r, .int .i64 a, .int .i64 b, .int .i64 o, .bool m]] w fun e w' => e = .returned (.agg #[.int .i64 V, .int .i64 l, .int .i64 H, .int .i64 t, .int .i64 R, .int .i64 a, .int .i64 b, .int .i64 o, .bool m]) ∧ Below w.heap.size w w' := by
  rw [vtT, if_pos rfl] at hE
  obtain ⟨e1, e2, e3⟩ := trip2 hE
  subst e1 e2 e3
  have HB := hide (And.intro hg (And.intro ht hr))
  obtain ⟨HH, hH⟩ : ∃ HH, max 0 (min 60000 (g + r)) = HH := ⟨_, rfl⟩
  have HHH := hide hH
  rw [hH]
  clear hH
  go_enter Try.func66, Try.ntmps66
  go_wp2_with (fail)
  refine wp_scope_n 3 ?_
  intro Q1 hQ1
  have HQ1 := hide hQ1
  clear hQ1
  go_wp2_with (fail)
  go_step3
  refine (show Q1 (.goto 2) _ _ from jumps_goto (unhide HQ1) rfl ?_)
  intro Q2 hQ2
  have HQ2 := hide hQ2
  clear hQ2 HQ1
  go_wp2_with (fail)
  all_goals
    refine jumps_ret (unhide HQ2) ?_
    clear HQ2
    have hH := unhide HHH
    refine bodyPost_ret (v := .agg #[.int .i64 0, .int .i64 l, .int .i64 HH, .int .i64 t, .int .i64 r, .int .i64 a, .int .i64 b, .int .i64 o, .bool m]) (by simp [results, Try.results66, go_sem]; try omega) rfl ⟨rfl, ?_⟩
    repeat (first | exact Below.refl _ _ | assumption | exact unhide BB | refine Below.setCell ?_ (by simp; try omega) _ | refine Below.alloc ?_ (by simp; try omega) _)
set_option maxRecDepth 20000 in
set_option maxHeartbeats 3000000 in
theorem vertTick_still {V H R : Int} (v l g t r a b o : Int) (m : Bool) (w : World) (hg : 0 ≤ g ∧ g ≤ 60000) (ht : 0 ≤ t ∧ t ≤ 60000) (hr : -100 ≤ r ∧ r ≤ 100) (h0 : ¬ v = 0) (h2 : ¬ v = 2) (h3 : ¬ v = 3) (hE : vtT v g t r = (V, H, R)) :
    Calls Try.prog 66 #[.agg #[.int .i64 v, .int .i64 l, .int .i64 g, .int .i64 t, .int .i64 r, .int .i64 a, .int .i64 b, .int .i64 o, .bool m]] w fun e w' => e = .returned (.agg #[.int .i64 V, .int .i64 l, .int .i64 H, .int .i64 t, .int .i64 R, .int .i64 a, .int .i64 b, .int .i64 o, .bool m]) ∧ Below w.heap.size w w' := by
  rw [vtT, if_neg h0, if_neg h2, if_neg h3] at hE
  obtain ⟨e1, e2, e3⟩ := trip2 hE
  subst e1 e2 e3
  have HB := hide (And.intro hg (And.intro ht hr))
  go_enter Try.func66, Try.ntmps66
  go_wp2_with (fail)
  refine wp_scope_n 3 ?_
  intro Q1 hQ1
  have HQ1 := hide hQ1
  clear hQ1
  go_wp2_with (fail)
  refine jumps_ret (unhide HQ1) ?_
  clear HQ1
  refine bodyPost_ret (v := .agg #[.int .i64 v, .int .i64 l, .int .i64 g, .int .i64 t, .int .i64 r, .int .i64 a, .int .i64 b, .int .i64 o, .bool m]) (by simp [results, Try.results66, go_sem, *]) rfl ⟨rfl, ?_⟩
  repeat (first | exact Below.refl _ _ | assumption | exact unhide BB | refine Below.setCell ?_ (by simp; try omega) _ | refine Below.alloc ?_ (by simp; try omega) _)
set_option maxRecDepth 20000 in
set_option maxHeartbeats 3000000 in
theorem vertTick_zero {V H R : Int} (l g t r a b o : Int) (m : Bool) (w : World) (hg : 0 ≤ g ∧ g ≤ 60000) (ht : 0 ≤ t ∧ t ≤ 60000) (hr : -100 ≤ r ∧ r ≤ 100) (h0 : r = 0) (hE : vtT 2 g t r = (V, H, R)) :
    Calls Try.prog 66 #[.agg #[.int .i64 2, .int .i64 l, .int .i64 g, .int .i64 t, .int .i64 r, .int .i64 a, .int .i64 b, .int .i64 o, .bool m]] w fun e w' => e = .returned (.agg #[.int .i64 V, .int .i64 l, .int .i64 H, .int .i64 t, .int .i64 R, .int .i64 a, .int .i64 b, .int .i64 o, .bool m]) ∧ Below w.heap.size w w' := by
  subst h0
  rw [vtT, if_neg (by decide), if_pos rfl, if_pos rfl] at hE
  obtain ⟨e1, e2, e3⟩ := trip2 hE
  subst e1 e2 e3
  have HB := hide (And.intro hg (And.intro ht hr))
  go_enter Try.func66, Try.ntmps66
  go_wp2_with (fail)
  refine wp_scope_n 3 ?_
  intro Q1 hQ1
  have HQ1 := hide hQ1
  clear hQ1
  go_wp2_with (fail)
  go_step3
  refine (show Q1 (.goto 0) _ _ from jumps_goto (unhide HQ1) rfl ?_)
  intro Q2 hQ2
  have HQ2 := hide hQ2
  clear hQ2 HQ1
  go_wp2_with (fail)
  refine jumps_ret (unhide HQ2) ?_
  clear HQ2
  refine bodyPost_ret (v := .agg #[.int .i64 2, .int .i64 l, .int .i64 g, .int .i64 t, .int .i64 0, .int .i64 a, .int .i64 b, .int .i64 o, .bool m]) (by simp [results, Try.results66, go_sem, *]) rfl ⟨rfl, ?_⟩
  repeat (first | exact Below.refl _ _ | assumption | exact unhide BB | refine Below.setCell ?_ (by simp; try omega) _ | refine Below.alloc ?_ (by simp; try omega) _)
set_option maxRecDepth 20000 in
set_option maxHeartbeats 3000000 in
theorem vertTick_there {V H R : Int} (l g t r a b o : Int) (m : Bool) (w : World) (hg : 0 ≤ g ∧ g ≤ 60000) (ht : 0 ≤ t ∧ t ≤ 60000) (hr : -100 ≤ r ∧ r ≤ 100) (h0 : ¬ r = 0) (hn : leadB (g + r) t r = false) (hE : vtT 2 g t r = (V, H, R)) :
    Calls Try.prog 66 #[.agg #[.int .i64 2, .int .i64 l, .int .i64 g, .int .i64 t, .int .i64 r, .int .i64 a, .int .i64 b, .int .i64 o, .bool m]] w fun e w' => e = .returned (.agg #[.int .i64 V, .int .i64 l, .int .i64 H, .int .i64 t, .int .i64 R, .int .i64 a, .int .i64 b, .int .i64 o, .bool m]) ∧ Below w.heap.size w w' := by
  rw [vtT, if_neg (by decide), if_pos rfl, if_neg h0, if_neg (by rw [hn]; decide)] at hE
  obtain ⟨e1, e2, e3⟩ := trip2 hE
  subst e1 e2 e3
  have HB := hide (And.intro hg (And.intro ht hr))
  have hl := hn
  clear hn
  go_enter Try.func66, Try.ntmps66
  go_wp2_with (fail)
  refine wp_scope_n 3 ?_
  intro Q1 hQ1
  have HQ1 := hide hQ1
  clear hQ1
  go_wp2_with (fail)
  go_step3
  refine (show Q1 (.goto 0) _ _ from jumps_goto (unhide HQ1) rfl ?_)
  intro Q2 hQ2
  have HQ2 := hide hQ2
  clear hQ2 HQ1
  go_wp2_with (go_at_call 79; refine (leads_is _ _ _ _ _ _ _ _ _ _ hl).mono ?_; rintro e w1 ⟨rfl, hw⟩; subst w1)
  go_step3
  refine (show Q2 (.goto 3) _ _ from jumps_goto (unhide HQ2) rfl ?_)
  intro Q3 hQ3
  have HQ3 := hide hQ3
  clear hQ3 HQ2
  go_wp2_with (go_at_call 78; refine (leveled_any _ _ _ _ _ _ _ _ _ _).mono ?_; rintro e w1 ⟨rfl, hw⟩; subst w1)
  refine jumps_ret (unhide HQ3) ?_
  clear HQ3
  refine bodyPost_ret (v := .agg #[.int .i64 1, .int .i64 l, .int .i64 t, .int .i64 t, .int .i64 0, .int .i64 a, .int .i64 b, .int .i64 o, .bool m]) (by simp [results, Try.results66, go_sem, *]) rfl ⟨rfl, ?_⟩
  repeat (first | exact Below.refl _ _ | assumption | exact unhide BB | refine Below.setCell ?_ (by simp; try omega) _ | refine Below.alloc ?_ (by simp; try omega) _)
set_option maxRecDepth 20000 in
set_option maxHeartbeats 3000000 in
theorem vertTick_near {V H R : Int} (l g t r a b o : Int) (m : Bool) (w : World) (hg : 0 ≤ g ∧ g ≤ 60000) (ht : 0 ≤ t ∧ t ≤ 60000) (hr : -100 ≤ r ∧ r ≤ 100) (h0 : ¬ r = 0) (hn : leadB (g + r) t r = true) (hd : ((t - (g + r)).natAbs : Int) ≤ 10 * (r.natAbs : Int)) (hE : vtT 2 g t r = (V, H, R)) :
    Calls Try.prog 66 #[.agg #[.int .i64 2, .int .i64 l, .int .i64 g, .int .i64 t, .int .i64 r, .int .i64 a, .int .i64 b, .int .i64 o, .bool m]] w fun e w' => e = .returned (.agg #[.int .i64 V, .int .i64 l, .int .i64 H, .int .i64 t, .int .i64 R, .int .i64 a, .int .i64 b, .int .i64 o, .bool m]) ∧ Below w.heap.size w w' := by
  rw [vtT, if_neg (by decide), if_pos rfl, if_neg h0, if_pos hn, if_pos hd] at hE
  obtain ⟨e1, e2, e3⟩ := trip2 hE
  subst e1 e2 e3
  have HB := hide (And.intro hg (And.intro ht hr))
  have hl := hn
  clear hn
  go_enter Try.func66, Try.ntmps66
  go_wp2_with (fail)
  refine wp_scope_n 3 ?_
  intro Q1 hQ1
  have HQ1 := hide hQ1
  clear hQ1
  go_wp2_with (fail)
  go_step3
  refine (show Q1 (.goto 0) _ _ from jumps_goto (unhide HQ1) rfl ?_)
  intro Q2 hQ2
  have HQ2 := hide hQ2
  clear hQ2 HQ1
  go_wp2_with (go_at_call 79; refine (leads_is _ _ _ _ _ _ _ _ _ _ hl).mono ?_; rintro e w1 ⟨rfl, hw⟩; subst w1)
  go_quiet ((go_at_call 80; exact Calls.quiet_of_same (sizeOf_any _ _ (by omega))))
  generalize hU : World.drewN _ nq = U
  have B0 : Blk U w.heap.size [.int .i64 2, .int .i64 l, .int .i64 (g + r), .int .i64 t, .int .i64 r, .int .i64 a, .int .i64 b, .int .i64 o, .bool m] := by rw [← hU]; exact blkAt3_0.drewN _
  have B1 : Blk U (w.heap.size + 1) [.int .i64 0, .int .i64 0, .int .i64 0, .int .i64 0, .int .i64 0, .int .i64 0, .int .i64 0, .int .i64 0, .bool false] := by rw [← hU]; exact blkAt3_1.drewN _
  have BB : Hid (Below w.heap.size w U) := hide (by rw [← hU]; exact (bel3 _ _ _).trans (bel0d' _))
  have c0 : U.cell? ⟨w.heap.size, 0, none⟩ = some (.int .i64 (2)) := B0.c 0 (by simp)
  have k0 : U.frozen? ⟨w.heap.size, 0, none⟩ = false := B0.f 0 (by simp)
  have c2 : U.cell? ⟨w.heap.size, 2, none⟩ = some (.int .i64 (g + r)) := B0.c 2 (by simp)
  have k2 : U.frozen? ⟨w.heap.size, 2, none⟩ = false := B0.f 2 (by simp)
  have c3 : U.cell? ⟨w.heap.size, 3, none⟩ = some (.int .i64 (t)) := B0.c 3 (by simp)
  have k3 : U.frozen? ⟨w.heap.size, 3, none⟩ = false := B0.f 3 (by simp)
  have c4 : U.cell? ⟨w.heap.size, 4, none⟩ = some (.int .i64 (r)) := B0.c 4 (by simp)
  have k4 : U.frozen? ⟨w.heap.size, 4, none⟩ = false := B0.f 4 (by simp)
  have HB0 := hide B0
  have HB1 := hide B1
  clear hU B0 B1
  go_wp2_with (first
    | ((with_reducible show wpList _ _ _ (⟨_, .load 64 _, _, _, _, none⟩ :: _) _ _); refine at_loadAgg (vs := [.int .i64 3, .int .i64 l, .int .i64 (g + r), .int .i64 t, .int .i64 r, .int .i64 a, .int .i64 b, .int .i64 o, .bool m]) Try.isAgg64 Try.sizeOf64 rfl (by simpa using (unhide HB0).set 0 (by simp) (.int .i64 3)) ?_)
    | ((with_reducible show wpList _ _ _ (⟨none, .store 64 _ _, _, _, _, none⟩ :: _) _ _); refine at_storeAgg (us := [.int .i64 0, .int .i64 0, .int .i64 0, .int .i64 0, .int .i64 0, .int .i64 0, .int .i64 0, .int .i64 0, .bool false]) (vs := [.int .i64 3, .int .i64 l, .int .i64 (g + r), .int .i64 t, .int .i64 r, .int .i64 a, .int .i64 b, .int .i64 o, .bool m]) Try.sizeOf64 rfl rfl ((unhide HB1).other (by simp) _) rfl (by simp [Value.oneCell']) ?_; intro w2 kk gg))
  have BW : Below w.heap.size w w2 := by
    refine Below.grown ?_ gg ?_ (fun q hq => by cases hq; simp)
    · repeat (first | exact unhide BB | refine Below.setCell ?_ (by simp) _ | refine Below.alloc ?_ (by have := (unhide BB).size; first | exact this | (simp; omega)) _)
    · have := (unhide BB).size; first | exact this | (simp; omega)
  have BE := hide BW
  refine jumps_ret (unhide HQ2) ?_
  clear HQ2
  exact bodyPost_ret (results_cell (vs := [.int .i64 3, .int .i64 l, .int .i64 (g + r), .int .i64 t, .int .i64 r, .int .i64 a, .int .i64 b, .int .i64 o, .bool m]) rfl Try.isAgg64 Try.sizeOf64 rfl kk) rfl ⟨rfl, unhide BE⟩
set_option maxRecDepth 20000 in
set_option maxHeartbeats 3000000 in
theorem vertTick_far {V H R : Int} (l g t r a b o : Int) (m : Bool) (w : World) (hg : 0 ≤ g ∧ g ≤ 60000) (ht : 0 ≤ t ∧ t ≤ 60000) (hr : -100 ≤ r ∧ r ≤ 100) (h0 : ¬ r = 0) (hn : leadB (g + r) t r = true) (hd : 10 * (r.natAbs : Int) < ((t - (g + r)).natAbs : Int)) (hE : vtT 2 g t r = (V, H, R)) :
    Calls Try.prog 66 #[.agg #[.int .i64 2, .int .i64 l, .int .i64 g, .int .i64 t, .int .i64 r, .int .i64 a, .int .i64 b, .int .i64 o, .bool m]] w fun e w' => e = .returned (.agg #[.int .i64 V, .int .i64 l, .int .i64 H, .int .i64 t, .int .i64 R, .int .i64 a, .int .i64 b, .int .i64 o, .bool m]) ∧ Below w.heap.size w w' := by
  rw [vtT, if_neg (by decide), if_pos rfl, if_neg h0, if_pos hn, if_neg (by omega)] at hE
  obtain ⟨e1, e2, e3⟩ := trip2 hE
  subst e1 e2 e3
  have HB := hide (And.intro hg (And.intro ht hr))
  have hl := hn
  clear hn
  go_enter Try.func66, Try.ntmps66
  go_wp2_with (fail)
  refine wp_scope_n 3 ?_
  intro Q1 hQ1
  have HQ1 := hide hQ1
  clear hQ1
  go_wp2_with (fail)
  go_step3
  refine (show Q1 (.goto 0) _ _ from jumps_goto (unhide HQ1) rfl ?_)
  intro Q2 hQ2
  have HQ2 := hide hQ2
  clear hQ2 HQ1
  go_wp2_with (go_at_call 79; refine (leads_is _ _ _ _ _ _ _ _ _ _ hl).mono ?_; rintro e w1 ⟨rfl, hw⟩; subst w1)
  go_quiet ((go_at_call 80; exact Calls.quiet_of_same (sizeOf_any _ _ (by omega))))
  generalize hU : World.drewN _ nq = U
  have B0 : Blk U w.heap.size [.int .i64 2, .int .i64 l, .int .i64 (g + r), .int .i64 t, .int .i64 r, .int .i64 a, .int .i64 b, .int .i64 o, .bool m] := by rw [← hU]; exact blkAt3_0.drewN _
  have B1 : Blk U (w.heap.size + 1) [.int .i64 0, .int .i64 0, .int .i64 0, .int .i64 0, .int .i64 0, .int .i64 0, .int .i64 0, .int .i64 0, .bool false] := by rw [← hU]; exact blkAt3_1.drewN _
  have BB : Hid (Below w.heap.size w U) := hide (by rw [← hU]; exact (bel3 _ _ _).trans (bel0d' _))
  have c0 : U.cell? ⟨w.heap.size, 0, none⟩ = some (.int .i64 (2)) := B0.c 0 (by simp)
  have k0 : U.frozen? ⟨w.heap.size, 0, none⟩ = false := B0.f 0 (by simp)
  have c2 : U.cell? ⟨w.heap.size, 2, none⟩ = some (.int .i64 (g + r)) := B0.c 2 (by simp)
  have k2 : U.frozen? ⟨w.heap.size, 2, none⟩ = false := B0.f 2 (by simp)
  have c3 : U.cell? ⟨w.heap.size, 3, none⟩ = some (.int .i64 (t)) := B0.c 3 (by simp)
  have k3 : U.frozen? ⟨w.heap.size, 3, none⟩ = false := B0.f 3 (by simp)
  have c4 : U.cell? ⟨w.heap.size, 4, none⟩ = some (.int .i64 (r)) := B0.c 4 (by simp)
  have k4 : U.frozen? ⟨w.heap.size, 4, none⟩ = false := B0.f 4 (by simp)
  have HB0 := hide B0
  have HB1 := hide B1
  clear hU B0 B1
  go_wp2_with (first
    | ((with_reducible show wpList _ _ _ (⟨_, .load 64 _, _, _, _, none⟩ :: _) _ _); refine at_loadAgg (vs := [.int .i64 2, .int .i64 l, .int .i64 (g + r), .int .i64 t, .int .i64 r, .int .i64 a, .int .i64 b, .int .i64 o, .bool m]) Try.isAgg64 Try.sizeOf64 rfl (unhide HB0) ?_)
    | ((with_reducible show wpList _ _ _ (⟨none, .store 64 _ _, _, _, _, none⟩ :: _) _ _); refine at_storeAgg (us := [.int .i64 0, .int .i64 0, .int .i64 0, .int .i64 0, .int .i64 0, .int .i64 0, .int .i64 0, .int .i64 0, .bool false]) (vs := [.int .i64 2, .int .i64 l, .int .i64 (g + r), .int .i64 t, .int .i64 r, .int .i64 a, .int .i64 b, .int .i64 o, .bool m]) Try.sizeOf64 rfl rfl (unhide HB1) rfl (by simp [Value.oneCell']) ?_; intro w2 kk gg))
  have BW : Below w.heap.size w w2 := by
    refine Below.grown ?_ gg ?_ (fun q hq => by cases hq; simp)
    · repeat (first | exact unhide BB | refine Below.setCell ?_ (by simp) _ | refine Below.alloc ?_ (by have := (unhide BB).size; first | exact this | (simp; omega)) _)
    · have := (unhide BB).size; first | exact this | (simp; omega)
  have BE := hide BW
  refine jumps_ret (unhide HQ2) ?_
  clear HQ2
  exact bodyPost_ret (results_cell (vs := [.int .i64 2, .int .i64 l, .int .i64 (g + r), .int .i64 t, .int .i64 r, .int .i64 a, .int .i64 b, .int .i64 o, .bool m]) rfl Try.isAgg64 Try.sizeOf64 rfl kk) rfl ⟨rfl, unhide BE⟩
set_option maxRecDepth 20000 in
set_option maxHeartbeats 3000000 in
theorem vertTick_caught {V H R : Int} (l g t r a b o : Int) (m : Bool) (w : World) (hg : 0 ≤ g ∧ g ≤ 60000) (ht : 0 ≤ t ∧ t ≤ 60000) (hr : -100 ≤ r ∧ r ≤ 100) (hd : tow g t (max 1 (((r.natAbs : Int) + 1).tdiv 2)) = t) (hE : vtT 3 g t r = (V, H, R)) :
    Calls Try.prog 66 #[.agg #[.int .i64 3, .int .i64 l, .int .i64 g, .int .i64 t, .int .i64 r, .int .i64 a, .int .i64 b, .int .i64 o, .bool m]] w fun e w' => e = .returned (.agg #[.int .i64 V, .int .i64 l, .int .i64 H, .int .i64 t, .int .i64 R, .int .i64 a, .int .i64 b, .int .i64 o, .bool m]) ∧ Below w.heap.size w w' := by
  rw [vtT, if_neg (by decide), if_neg (by decide), if_pos rfl, if_pos hd] at hE
  obtain ⟨e1, e2, e3⟩ := trip2 hE
  subst e1 e2 e3
  have HB := hide (And.intro hg (And.intro ht hr))
  by_cases hm : ((r.natAbs : Int) + 1) / 2 < 1
  all_goals
    have hn : 1 ≤ max 1 (((r.natAbs : Int) + 1).tdiv 2) ∧ max 1 (((r.natAbs : Int) + 1).tdiv 2) ≤ 60 := by rw [Int.tdiv_eq_ediv_of_nonneg (by omega)]; omega
    obtain ⟨T, hT⟩ : ∃ T, tow g t (max 1 (((r.natAbs : Int) + 1).tdiv 2)) = T := ⟨_, rfl⟩
    have HT := hide hT
    rw [hT] at hd
    have HD := hide hd
    clear hd
    have hTb : -100000 ≤ T ∧ T ≤ 100000 := by rw [← hT]; unfold tow; split <;> omega
    clear hT
    obtain ⟨ι, f, _, hbf, hall⟩ := belClass ((w.alloc (Obj.cells #[.int .i64 3, .int .i64 l, .int .i64 g, .int .i64 t, .int .i64 r, .int .i64 a, .int .i64 b, .int .i64 o, .bool m] 64)).alloc (Obj.cells #[.int .i64 0, .int .i64 0, .int .i64 0, .int .i64 0, .int .i64 0, .int .i64 0, .int .i64 0, .int .i64 0, .bool false] 64))
    have P0 : ∀ x, Blk (f x) w.heap.size [.int .i64 3, .int .i64 l, .int .i64 g, .int .i64 t, .int .i64 r, .int .i64 a, .int .i64 b, .int .i64 o, .bool m] := fun x => blkAt2_0.below (hbf x)
    have P1 : ∀ x, Blk (f x) (w.heap.size + 1) [.int .i64 0, .int .i64 0, .int .i64 0, .int .i64 0, .int .i64 0, .int .i64 0, .int .i64 0, .int .i64 0, .bool false] := fun x => blkAt2_1.below (hbf x)
    have PB : Hid (∀ x, Below w.heap.size w (f x)) := hide (fun x => (bel2 _ _).trans ((hbf x).mono (by simp; omega)))
    have c2 : ∀ x, (f x).cell? ⟨w.heap.size, 2, none⟩ = some (.int .i64 g) := fun x => (P0 x).c 2 (by simp)
    have c3 : ∀ x, (f x).cell? ⟨w.heap.size, 3, none⟩ = some (.int .i64 t) := fun x => (P0 x).c 3 (by simp)
    have c4 : ∀ x, (f x).cell? ⟨w.heap.size, 4, none⟩ = some (.int .i64 r) := fun x => (P0 x).c 4 (by simp)
    have k2 : ∀ x, (f x).frozen? ⟨w.heap.size, 2, none⟩ = false := fun x => (P0 x).f 2 (by simp)
    have HP0 := hide P0
    have HP1 := hide P1
    have HA := hide hall
    clear P0 P1 hbf hall
    go_enter Try.func66, Try.ntmps66
    go_wp2_with (fail)
    refine wp_scope_n 3 ?_
    intro Q1 hQ1
    have HQ1 := hide hQ1
    clear hQ1
    go_wp2_with (fail)
    go_step3
    refine (show Q1 (.goto 1) _ _ from jumps_goto (unhide HQ1) rfl ?_)
    intro Q2 hQ2
    have HQ2 := hide hQ2
    clear hQ2 HQ1
    go_wp2_with (fail)
    refine wp_region_then (unhide HA) (by kernel_rfl) (by kernel_rfl) (by kernel_rfl) ?_
    dsimp only [swapLast, lastOf]
    repeat (go_big_quiet_step (first | (go_at_call 80; exact belS (sizeOf_any _ _ (by omega))) | (go_at_call 81; exact belS (toward_is (c := T) _ _ _ _ (by omega) (by first | omega | (constructor <;> split <;> omega)) (by first | exact unhide HT | (rw [← unhide HT]; congr 1; first | exact half_is r | (rw [Int.tdiv_eq_ediv_of_nonneg (by omega)]; omega)))))))
    refine wpQuiet_nil ?_
    rintro _ ⟨y, rfl⟩
    go_simp
    generalize hU : World.setCell _ _ _ = U
    have B0 : Blk U w.heap.size [.int .i64 3, .int .i64 l, .int .i64 T, .int .i64 t, .int .i64 r, .int .i64 a, .int .i64 b, .int .i64 o, .bool m] := by rw [← hU]; simpa using (unhide HP0 y).set 2 (by simp) (.int .i64 T)
    have B1 : Blk U (w.heap.size + 1) [.int .i64 0, .int .i64 0, .int .i64 0, .int .i64 0, .int .i64 0, .int .i64 0, .int .i64 0, .int .i64 0, .bool false] := by rw [← hU]; exact (unhide HP1 y).other (by simp) _
    have BB : Hid (Below w.heap.size w U) := hide (by rw [← hU]; exact (unhide PB y).setCell (by simp) _)
    clear c2 c3 c4 k2
    have c0 : U.cell? ⟨w.heap.size, 0, none⟩ = some (.int .i64 (3)) := B0.c 0 (by simp)
    have k0 : U.frozen? ⟨w.heap.size, 0, none⟩ = false := B0.f 0 (by simp)
    have c2 : U.cell? ⟨w.heap.size, 2, none⟩ = some (.int .i64 (T)) := B0.c 2 (by simp)
    have k2 : U.frozen? ⟨w.heap.size, 2, none⟩ = false := B0.f 2 (by simp)
    have c3 : U.cell? ⟨w.heap.size, 3, none⟩ = some (.int .i64 (t)) := B0.c 3 (by simp)
    have k3 : U.frozen? ⟨w.heap.size, 3, none⟩ = false := B0.f 3 (by simp)
    have c4 : U.cell? ⟨w.heap.size, 4, none⟩ = some (.int .i64 (r)) := B0.c 4 (by simp)
    have k4 : U.frozen? ⟨w.heap.size, 4, none⟩ = false := B0.f 4 (by simp)
    have HB0 := hide B0
    have HB1 := hide B1
    clear hU B0 B1
    clear HP0 HP1 PB HA HT
    have hd := unhide HD
    clear HD
    subst hd
    go_wp2_with (fail)
    go_step3
    refine (show Q2 (.goto 3) _ _ from jumps_goto (unhide HQ2) rfl ?_)
    intro Q3 hQ3
    have HQ3 := hide hQ3
    clear hQ3 HQ2
    go_wp2_with (first
      | ((with_reducible show wpList _ _ _ (⟨_, .load 64 _, _, _, _, none⟩ :: _) _ _); refine at_loadAgg (vs := [.int .i64 3, .int .i64 l, .int .i64 T, .int .i64 T, .int .i64 r, .int .i64 a, .int .i64 b, .int .i64 o, .bool m]) Try.isAgg64 Try.sizeOf64 rfl (by simpa using (unhide HB0).set 2 (by simp) (.int .i64 T)) ?_)
      | ((with_reducible show wpList _ _ _ (⟨none, .store 64 _ _, _, _, _, none⟩ :: _) _ _); refine at_storeAgg (us := [.int .i64 0, .int .i64 0, .int .i64 0, .int .i64 0, .int .i64 0, .int .i64 0, .int .i64 0, .int .i64 0, .bool false]) (vs := [.int .i64 1, .int .i64 l, .int .i64 T, .int .i64 T, .int .i64 0, .int .i64 a, .int .i64 b, .int .i64 o, .bool m]) Try.sizeOf64 rfl rfl ((((unhide HB1).other (by simp) _).alloc _).alloc _) rfl (by simp [Value.oneCell']) ?_; intro w2 kk gg)
      | (go_at_call 78; refine (leveled_any _ _ _ _ _ _ _ _ _ _).mono ?_; rintro e w1 ⟨rfl, hw⟩; subst w1))
    have BW : Below w.heap.size w w2 := by
      refine Below.grown ?_ gg ?_ (fun q hq => by cases hq; simp)
      · repeat (first | exact unhide BB | refine Below.setCell ?_ (by simp) _ | refine Below.alloc ?_ (by have := (unhide BB).size; first | exact this | (simp; omega)) _)
      · have := (unhide BB).size; first | exact this | (simp; omega)
    have BE := hide BW
    refine jumps_ret (unhide HQ3) ?_
    clear HQ3
    exact bodyPost_ret (results_cell (vs := [.int .i64 1, .int .i64 l, .int .i64 T, .int .i64 T, .int .i64 0, .int .i64 a, .int .i64 b, .int .i64 o, .bool m]) rfl Try.isAgg64 Try.sizeOf64 rfl kk) rfl ⟨rfl, unhide BE⟩
set_option maxRecDepth 20000 in
set_option maxHeartbeats 3000000 in
theorem vertTick_nearer {V H R : Int} (l g t r a b o : Int) (m : Bool) (w : World) (hg : 0 ≤ g ∧ g ≤ 60000) (ht : 0 ≤ t ∧ t ≤ 60000) (hr : -100 ≤ r ∧ r ≤ 100) (hd : ¬ tow g t (max 1 (((r.natAbs : Int) + 1).tdiv 2)) = t) (hE : vtT 3 g t r = (V, H, R)) :
    Calls Try.prog 66 #[.agg #[.int .i64 3, .int .i64 l, .int .i64 g, .int .i64 t, .int .i64 r, .int .i64 a, .int .i64 b, .int .i64 o, .bool m]] w fun e w' => e = .returned (.agg #[.int .i64 V, .int .i64 l, .int .i64 H, .int .i64 t, .int .i64 R, .int .i64 a, .int .i64 b, .int .i64 o, .bool m]) ∧ Below w.heap.size w w' := by
  rw [vtT, if_neg (by decide), if_neg (by decide), if_pos rfl, if_neg hd] at hE
  obtain ⟨e1, e2, e3⟩ := trip2 hE
  subst e1 e2 e3
  have HB := hide (And.intro hg (And.intro ht hr))
  by_cases hm : ((r.natAbs : Int) + 1) / 2 < 1
  all_goals
    have hn : 1 ≤ max 1 (((r.natAbs : Int) + 1).tdiv 2) ∧ max 1 (((r.natAbs : Int) + 1).tdiv 2) ≤ 60 := by rw [Int.tdiv_eq_ediv_of_nonneg (by omega)]; omega
    obtain ⟨T, hT⟩ : ∃ T, tow g t (max 1 (((r.natAbs : Int) + 1).tdiv 2)) = T := ⟨_, rfl⟩
    have HT := hide hT
    rw [hT] at hd ⊢
    have HD := hide hd
    clear hd
    have hTb : -100000 ≤ T ∧ T ≤ 100000 := by rw [← hT]; unfold tow; split <;> omega
    clear hT
    obtain ⟨ι, f, _, hbf, hall⟩ := belClass ((w.alloc (Obj.cells #[.int .i64 3, .int .i64 l, .int .i64 g, .int .i64 t, .int .i64 r, .int .i64 a, .int .i64 b, .int .i64 o, .bool m] 64)).alloc (Obj.cells #[.int .i64 0, .int .i64 0, .int .i64 0, .int .i64 0, .int .i64 0, .int .i64 0, .int .i64 0, .int .i64 0, .bool false] 64))
    have P0 : ∀ x, Blk (f x) w.heap.size [.int .i64 3, .int .i64 l, .int .i64 g, .int .i64 t, .int .i64 r, .int .i64 a, .int .i64 b, .int .i64 o, .bool m] := fun x => blkAt2_0.below (hbf x)
    have P1 : ∀ x, Blk (f x) (w.heap.size + 1) [.int .i64 0, .int .i64 0, .int .i64 0, .int .i64 0, .int .i64 0, .int .i64 0, .int .i64 0, .int .i64 0, .bool false] := fun x => blkAt2_1.below (hbf x)
    have PB : Hid (∀ x, Below w.heap.size w (f x)) := hide (fun x => (bel2 _ _).trans ((hbf x).mono (by simp; omega)))
    have c2 : ∀ x, (f x).cell? ⟨w.heap.size, 2, none⟩ = some (.int .i64 g) := fun x => (P0 x).c 2 (by simp)
    have c3 : ∀ x, (f x).cell? ⟨w.heap.size, 3, none⟩ = some (.int .i64 t) := fun x => (P0 x).c 3 (by simp)
    have c4 : ∀ x, (f x).cell? ⟨w.heap.size, 4, none⟩ = some (.int .i64 r) := fun x => (P0 x).c 4 (by simp)
    have k2 : ∀ x, (f x).frozen? ⟨w.heap.size, 2, none⟩ = false := fun x => (P0 x).f 2 (by simp)
    have HP0 := hide P0
    have HP1 := hide P1
    have HA := hide hall
    clear P0 P1 hbf hall
    go_enter Try.func66, Try.ntmps66
    go_wp2_with (fail)
    refine wp_scope_n 3 ?_
    intro Q1 hQ1
    have HQ1 := hide hQ1
    clear hQ1
    go_wp2_with (fail)
    go_step3
    refine (show Q1 (.goto 1) _ _ from jumps_goto (unhide HQ1) rfl ?_)
    intro Q2 hQ2
    have HQ2 := hide hQ2
    clear hQ2 HQ1
    go_wp2_with (fail)
    refine wp_region_then (unhide HA) (by kernel_rfl) (by kernel_rfl) (by kernel_rfl) ?_
    dsimp only [swapLast, lastOf]
    repeat (go_big_quiet_step (first | (go_at_call 80; exact belS (sizeOf_any _ _ (by omega))) | (go_at_call 81; exact belS (toward_is (c := T) _ _ _ _ (by omega) (by first | omega | (constructor <;> split <;> omega)) (by first | exact unhide HT | (rw [← unhide HT]; congr 1; first | exact half_is r | (rw [Int.tdiv_eq_ediv_of_nonneg (by omega)]; omega)))))))
    refine wpQuiet_nil ?_
    rintro _ ⟨y, rfl⟩
    go_simp
    generalize hU : World.setCell _ _ _ = U
    have B0 : Blk U w.heap.size [.int .i64 3, .int .i64 l, .int .i64 T, .int .i64 t, .int .i64 r, .int .i64 a, .int .i64 b, .int .i64 o, .bool m] := by rw [← hU]; simpa using (unhide HP0 y).set 2 (by simp) (.int .i64 T)
    have B1 : Blk U (w.heap.size + 1) [.int .i64 0, .int .i64 0, .int .i64 0, .int .i64 0, .int .i64 0, .int .i64 0, .int .i64 0, .int .i64 0, .bool false] := by rw [← hU]; exact (unhide HP1 y).other (by simp) _
    have BB : Hid (Below w.heap.size w U) := hide (by rw [← hU]; exact (unhide PB y).setCell (by simp) _)
    clear c2 c3 c4 k2
    have c0 : U.cell? ⟨w.heap.size, 0, none⟩ = some (.int .i64 (3)) := B0.c 0 (by simp)
    have k0 : U.frozen? ⟨w.heap.size, 0, none⟩ = false := B0.f 0 (by simp)
    have c2 : U.cell? ⟨w.heap.size, 2, none⟩ = some (.int .i64 (T)) := B0.c 2 (by simp)
    have k2 : U.frozen? ⟨w.heap.size, 2, none⟩ = false := B0.f 2 (by simp)
    have c3 : U.cell? ⟨w.heap.size, 3, none⟩ = some (.int .i64 (t)) := B0.c 3 (by simp)
    have k3 : U.frozen? ⟨w.heap.size, 3, none⟩ = false := B0.f 3 (by simp)
    have c4 : U.cell? ⟨w.heap.size, 4, none⟩ = some (.int .i64 (r)) := B0.c 4 (by simp)
    have k4 : U.frozen? ⟨w.heap.size, 4, none⟩ = false := B0.f 4 (by simp)
    have HB0 := hide B0
    have HB1 := hide B1
    clear hU B0 B1
    clear HP0 HP1 PB HA HT
    have hd := unhide HD
    go_wp2_with (first
      | ((with_reducible show wpList _ _ _ (⟨_, .load 64 _, _, _, _, none⟩ :: _) _ _); refine at_loadAgg (vs := [.int .i64 3, .int .i64 l, .int .i64 T, .int .i64 t, .int .i64 r, .int .i64 a, .int .i64 b, .int .i64 o, .bool m]) Try.isAgg64 Try.sizeOf64 rfl (unhide HB0) ?_)
      | ((with_reducible show wpList _ _ _ (⟨none, .store 64 _ _, _, _, _, none⟩ :: _) _ _); refine at_storeAgg (us := [.int .i64 0, .int .i64 0, .int .i64 0, .int .i64 0, .int .i64 0, .int .i64 0, .int .i64 0, .int .i64 0, .bool false]) (vs := [.int .i64 3, .int .i64 l, .int .i64 T, .int .i64 t, .int .i64 r, .int .i64 a, .int .i64 b, .int .i64 o, .bool m]) Try.sizeOf64 rfl rfl (unhide HB1) rfl (by simp [Value.oneCell']) ?_; intro w2 kk gg))
    have BW : Below w.heap.size w w2 := by
      refine Below.grown ?_ gg ?_ (fun q hq => by cases hq; simp)
      · repeat (first | exact unhide BB | refine Below.setCell ?_ (by simp) _ | refine Below.alloc ?_ (by have := (unhide BB).size; first | exact this | (simp; omega)) _)
      · have := (unhide BB).size; first | exact this | (simp; omega)
    have BE := hide BW
    refine jumps_ret (unhide HQ2) ?_
    clear HQ2
    exact bodyPost_ret (results_cell (vs := [.int .i64 3, .int .i64 l, .int .i64 T, .int .i64 t, .int .i64 r, .int .i64 a, .int .i64 b, .int .i64 o, .bool m]) rfl Try.isAgg64 Try.sizeOf64 rfl kk) rfl ⟨rfl, unhide BE⟩
theorem vertTick_is {V H R : Int} (v l g t r a b o : Int) (m : Bool) (w : World) (hv : 0 ≤ v ∧ v ≤ 4) (hg : 0 ≤ g ∧ g ≤ 60000) (ht : 0 ≤ t ∧ t ≤ 60000) (hr : -100 ≤ r ∧ r ≤ 100) (hE : vtT v g t r = (V, H, R)) :
    Calls Try.prog 66 #[.agg #[.int .i64 v, .int .i64 l, .int .i64 g, .int .i64 t, .int .i64 r, .int .i64 a, .int .i64 b, .int .i64 o, .bool m]] w fun e w' => e = .returned (.agg #[.int .i64 V, .int .i64 l, .int .i64 H, .int .i64 t, .int .i64 R, .int .i64 a, .int .i64 b, .int .i64 o, .bool m]) ∧ Below w.heap.size w w' := by
  rcases (by omega : v = 0 ∨ v = 2 ∨ v = 3 ∨ (¬ v = 0 ∧ ¬ v = 2 ∧ ¬ v = 3)) with rfl | rfl | rfl | ⟨h0, h2, h3⟩
  · exact @vertTick_off _ _ _ l g t r a b o m w hg ht hr hE
  · by_cases h0 : r = 0
    · exact @vertTick_zero _ _ _ l g t r a b o m w hg ht hr h0 hE
    cases hn : leadB (g + r) t r
    · exact @vertTick_there _ _ _ l g t r a b o m w hg ht hr h0 hn hE
    by_cases hd : ((t - (g + r)).natAbs : Int) ≤ 10 * (r.natAbs : Int)
    · exact @vertTick_near _ _ _ l g t r a b o m w hg ht hr h0 hn hd hE
    · exact @vertTick_far _ _ _ l g t r a b o m w hg ht hr h0 hn (by omega) hE
  · by_cases hd : tow g t (max 1 (((r.natAbs : Int) + 1).tdiv 2)) = t
    · exact @vertTick_caught _ _ _ l g t r a b o m w hg ht hr hd hE
    · exact @vertTick_nearer _ _ _ l g t r a b o m w hg ht hr hd hE
  · exact @vertTick_still _ _ _ v l g t r a b o m w hg ht hr h0 h2 h3 hE
set_option maxRecDepth 20000 in
set_option maxHeartbeats 3000000 in
theorem latTick_still (v g t r a b o : Int) (m : Bool) (w : World) (ha : 0 ≤ a ∧ a ≤ 359) (hb : 0 ≤ b ∧ b ≤ 359) (ho : -10000 ≤ o ∧ o ≤ 10000) :
    Calls Try.prog 67 #[.agg #[.int .i64 v, .int .i64 0, .int .i64 g, .int .i64 t, .int .i64 r, .int .i64 a, .int .i64 b, .int .i64 o, .bool m]] w fun e w' => e = .returned (.agg #[.int .i64 v, .int .i64 0, .int .i64 g, .int .i64 t, .int .i64 r, .int .i64 a, .int .i64 b, .int .i64 o, .bool m]) ∧ Below w.heap.size w w' := by
  have HB := hide (And.intro ha (And.intro hb ho))
  go_enter Try.func67, Try.ntmps67
  go_wp2_with (fail)
  refine wp_scope_n 3 ?_
  intro Q1 hQ1
  have HQ1 := hide hQ1
  clear hQ1
  go_wp2_with (fail)
  refine jumps_ret (unhide HQ1) ?_
  clear HQ1
  refine bodyPost_ret (v := .agg #[.int .i64 v, .int .i64 0, .int .i64 g, .int .i64 t, .int .i64 r, .int .i64 a, .int .i64 b, .int .i64 o, .bool m]) (by simp [results, Try.results67, go_sem, *]) rfl ⟨rfl, ?_⟩
  repeat (first | exact Below.refl _ _ | assumption | exact unhide BB | refine Below.setCell ?_ (by simp; try omega) _ | refine Below.alloc ?_ (by simp; try omega) _)
set_option maxRecDepth 20000 in
set_option maxHeartbeats 3000000 in
theorem latTick_armed (v g t r a b o : Int) (w : World) (ha : 0 ≤ a ∧ a ≤ 359) (hb : 0 ≤ b ∧ b ≤ 359) (ho : -10000 ≤ o ∧ o ≤ 10000) (hd : (o.natAbs : Int) ≤ 50) :
    Calls Try.prog 67 #[.agg #[.int .i64 v, .int .i64 1, .int .i64 g, .int .i64 t, .int .i64 r, .int .i64 a, .int .i64 b, .int .i64 o, .bool true]] w fun e w' => e = .returned (.agg #[.int .i64 v, .int .i64 3, .int .i64 g, .int .i64 t, .int .i64 r, .int .i64 (turnR a b), .int .i64 b, .int .i64 o, .bool false]) ∧ Below w.heap.size w w' := by
  have HB := hide (And.intro ha (And.intro hb ho))
  go_enter Try.func67, Try.ntmps67
  go_wp2_with (fail)
  refine wp_scope_n 3 ?_
  intro Q1 hQ1
  have HQ1 := hide hQ1
  clear hQ1
  go_wp2_with (fail)
  go_step3
  refine (show Q1 (.goto 0) _ _ from jumps_goto (unhide HQ1) rfl ?_)
  intro Q2 hQ2
  have HQ2 := hide hQ2
  clear hQ2 HQ1
  go_wp2_with (first | (go_at_call 82; refine (turned_any _ _ _ (by omega) (by omega)).mono ?_; rintro e w' ⟨rfl, hw⟩; subst w') | (go_at_call 80; refine (sizeOf_any _ _ (by omega)).mono ?_; rintro e w' ⟨rfl, hw⟩; subst w') | (go_at_call 81; refine (toward_is _ _ _ _ (by omega) (by omega) rfl).mono ?_; rintro e w' ⟨rfl, hw⟩; subst w'))
  go_step3
  refine (show Q2 (.goto 3) _ _ from jumps_goto (unhide HQ2) rfl ?_)
  intro Q3 hQ3
  have HQ3 := hide hQ3
  clear hQ3 HQ2
  go_wp2_with (first | (go_at_call 82; refine (turned_any _ _ _ (by omega) (by omega)).mono ?_; rintro e w' ⟨rfl, hw⟩; subst w') | (go_at_call 80; refine (sizeOf_any _ _ (by omega)).mono ?_; rintro e w' ⟨rfl, hw⟩; subst w') | (go_at_call 81; refine (toward_is _ _ _ _ (by omega) (by omega) rfl).mono ?_; rintro e w' ⟨rfl, hw⟩; subst w'))
  refine jumps_ret (unhide HQ3) ?_
  clear HQ3
  refine bodyPost_ret (v := .agg #[.int .i64 v, .int .i64 3, .int .i64 g, .int .i64 t, .int .i64 r, .int .i64 (turnR a b), .int .i64 b, .int .i64 o, .bool false]) (by simp [results, Try.results67, go_sem, *]) rfl ⟨rfl, ?_⟩
  repeat (first | exact Below.refl _ _ | assumption | exact unhide BB | refine Below.setCell ?_ (by simp; try omega) _ | refine Below.alloc ?_ (by simp; try omega) _)
set_option maxRecDepth 20000 in
set_option maxHeartbeats 3000000 in
theorem latTick_off (v g t r a b o : Int) (w : World) (ha : 0 ≤ a ∧ a ≤ 359) (hb : 0 ≤ b ∧ b ≤ 359) (ho : -10000 ≤ o ∧ o ≤ 10000) (hd : 50 < (o.natAbs : Int)) :
    Calls Try.prog 67 #[.agg #[.int .i64 v, .int .i64 1, .int .i64 g, .int .i64 t, .int .i64 r, .int .i64 a, .int .i64 b, .int .i64 o, .bool true]] w fun e w' => e = .returned (.agg #[.int .i64 v, .int .i64 1, .int .i64 g, .int .i64 t, .int .i64 r, .int .i64 (turnR a b), .int .i64 b, .int .i64 o, .bool true]) ∧ Below w.heap.size w w' := by
  have HB := hide (And.intro ha (And.intro hb ho))
  go_enter Try.func67, Try.ntmps67
  go_wp2_with (fail)
  refine wp_scope_n 3 ?_
  intro Q1 hQ1
  have HQ1 := hide hQ1
  clear hQ1
  go_wp2_with (fail)
  go_step3
  refine (show Q1 (.goto 0) _ _ from jumps_goto (unhide HQ1) rfl ?_)
  intro Q2 hQ2
  have HQ2 := hide hQ2
  clear hQ2 HQ1
  go_wp2_with (first | (go_at_call 82; refine (turned_any _ _ _ (by omega) (by omega)).mono ?_; rintro e w' ⟨rfl, hw⟩; subst w') | (go_at_call 80; refine (sizeOf_any _ _ (by omega)).mono ?_; rintro e w' ⟨rfl, hw⟩; subst w') | (go_at_call 81; refine (toward_is _ _ _ _ (by omega) (by omega) rfl).mono ?_; rintro e w' ⟨rfl, hw⟩; subst w'))
  refine jumps_ret (unhide HQ2) ?_
  clear HQ2
  refine bodyPost_ret (v := .agg #[.int .i64 v, .int .i64 1, .int .i64 g, .int .i64 t, .int .i64 r, .int .i64 (turnR a b), .int .i64 b, .int .i64 o, .bool true]) (by simp [results, Try.results67, go_sem, *]) rfl ⟨rfl, ?_⟩
  repeat (first | exact Below.refl _ _ | assumption | exact unhide BB | refine Below.setCell ?_ (by simp; try omega) _ | refine Below.alloc ?_ (by simp; try omega) _)
set_option maxRecDepth 20000 in
set_option maxHeartbeats 3000000 in
theorem latTick_turn (v g t r a b o : Int) (w : World) (ha : 0 ≤ a ∧ a ≤ 359) (hb : 0 ≤ b ∧ b ≤ 359) (ho : -10000 ≤ o ∧ o ≤ 10000) :
    Calls Try.prog 67 #[.agg #[.int .i64 v, .int .i64 1, .int .i64 g, .int .i64 t, .int .i64 r, .int .i64 a, .int .i64 b, .int .i64 o, .bool false]] w fun e w' => e = .returned (.agg #[.int .i64 v, .int .i64 1, .int .i64 g, .int .i64 t, .int .i64 r, .int .i64 (turnR a b), .int .i64 b, .int .i64 o, .bool false]) ∧ Below w.heap.size w w' := by
  have HB := hide (And.intro ha (And.intro hb ho))
  go_enter Try.func67, Try.ntmps67
  go_wp2_with (fail)
  refine wp_scope_n 3 ?_
  intro Q1 hQ1
  have HQ1 := hide hQ1
  clear hQ1
  go_wp2_with (fail)
  go_step3
  refine (show Q1 (.goto 0) _ _ from jumps_goto (unhide HQ1) rfl ?_)
  intro Q2 hQ2
  have HQ2 := hide hQ2
  clear hQ2 HQ1
  go_wp2_with (first | (go_at_call 82; refine (turned_any _ _ _ (by omega) (by omega)).mono ?_; rintro e w' ⟨rfl, hw⟩; subst w') | (go_at_call 80; refine (sizeOf_any _ _ (by omega)).mono ?_; rintro e w' ⟨rfl, hw⟩; subst w') | (go_at_call 81; refine (toward_is _ _ _ _ (by omega) (by omega) rfl).mono ?_; rintro e w' ⟨rfl, hw⟩; subst w'))
  refine jumps_ret (unhide HQ2) ?_
  clear HQ2
  refine bodyPost_ret (v := .agg #[.int .i64 v, .int .i64 1, .int .i64 g, .int .i64 t, .int .i64 r, .int .i64 (turnR a b), .int .i64 b, .int .i64 o, .bool false]) (by simp [results, Try.results67, go_sem, *]) rfl ⟨rfl, ?_⟩
  repeat (first | exact Below.refl _ _ | assumption | exact unhide BB | refine Below.setCell ?_ (by simp; try omega) _ | refine Below.alloc ?_ (by simp; try omega) _)
set_option maxRecDepth 20000 in
set_option maxHeartbeats 3000000 in
theorem latTick_on (v g t r a b o : Int) (m : Bool) (w : World) (ha : 0 ≤ a ∧ a ≤ 359) (hb : 0 ≤ b ∧ b ≤ 359) (ho : -10000 ≤ o ∧ o ≤ 10000) (hd : tow o 0 10 = 0) :
    Calls Try.prog 67 #[.agg #[.int .i64 v, .int .i64 3, .int .i64 g, .int .i64 t, .int .i64 r, .int .i64 a, .int .i64 b, .int .i64 o, .bool m]] w fun e w' => e = .returned (.agg #[.int .i64 v, .int .i64 2, .int .i64 g, .int .i64 t, .int .i64 r, .int .i64 a, .int .i64 b, .int .i64 0, .bool m]) ∧ Below w.heap.size w w' := by
  have HB := hide (And.intro ha (And.intro hb ho))
  go_enter Try.func67, Try.ntmps67
  go_wp2_with (fail)
  refine wp_scope_n 3 ?_
  intro Q1 hQ1
  have HQ1 := hide hQ1
  clear hQ1
  go_wp2_with (fail)
  go_step3
  refine (show Q1 (.goto 1) _ _ from jumps_goto (unhide HQ1) rfl ?_)
  intro Q2 hQ2
  have HQ2 := hide hQ2
  clear hQ2 HQ1
  go_wp2_with (first | (go_at_call 82; refine (turned_any _ _ _ (by omega) (by omega)).mono ?_; rintro e w' ⟨rfl, hw⟩; subst w') | (go_at_call 80; refine (sizeOf_any _ _ (by omega)).mono ?_; rintro e w' ⟨rfl, hw⟩; subst w') | (go_at_call 81; refine (toward_is _ _ _ _ (by omega) (by omega) rfl).mono ?_; rintro e w' ⟨rfl, hw⟩; subst w'))
  refine jumps_ret (unhide HQ2) ?_
  clear HQ2
  refine bodyPost_ret (v := .agg #[.int .i64 v, .int .i64 2, .int .i64 g, .int .i64 t, .int .i64 r, .int .i64 a, .int .i64 b, .int .i64 0, .bool m]) (by simp [results, Try.results67, go_sem, *]) rfl ⟨rfl, ?_⟩
  repeat (first | exact Below.refl _ _ | assumption | exact unhide BB | refine Below.setCell ?_ (by simp; try omega) _ | refine Below.alloc ?_ (by simp; try omega) _)
set_option maxRecDepth 20000 in
set_option maxHeartbeats 3000000 in
theorem latTick_nearer (v g t r a b o : Int) (m : Bool) (w : World) (ha : 0 ≤ a ∧ a ≤ 359) (hb : 0 ≤ b ∧ b ≤ 359) (ho : -10000 ≤ o ∧ o ≤ 10000) (hd : ¬ tow o 0 10 = 0) :
    Calls Try.prog 67 #[.agg #[.int .i64 v, .int .i64 3, .int .i64 g, .int .i64 t, .int .i64 r, .int .i64 a, .int .i64 b, .int .i64 o, .bool m]] w fun e w' => e = .returned (.agg #[.int .i64 v, .int .i64 3, .int .i64 g, .int .i64 t, .int .i64 r, .int .i64 a, .int .i64 b, .int .i64 (tow o 0 10), .bool m]) ∧ Below w.heap.size w w' := by
  have HB := hide (And.intro ha (And.intro hb ho))
  go_enter Try.func67, Try.ntmps67
  go_wp2_with (fail)
  refine wp_scope_n 3 ?_
  intro Q1 hQ1
  have HQ1 := hide hQ1
  clear hQ1
  go_wp2_with (fail)
  go_step3
  refine (show Q1 (.goto 1) _ _ from jumps_goto (unhide HQ1) rfl ?_)
  intro Q2 hQ2
  have HQ2 := hide hQ2
  clear hQ2 HQ1
  go_wp2_with (first | (go_at_call 82; refine (turned_any _ _ _ (by omega) (by omega)).mono ?_; rintro e w' ⟨rfl, hw⟩; subst w') | (go_at_call 80; refine (sizeOf_any _ _ (by omega)).mono ?_; rintro e w' ⟨rfl, hw⟩; subst w') | (go_at_call 81; refine (toward_is _ _ _ _ (by omega) (by omega) rfl).mono ?_; rintro e w' ⟨rfl, hw⟩; subst w'))
  refine jumps_ret (unhide HQ2) ?_
  clear HQ2
  refine bodyPost_ret (v := .agg #[.int .i64 v, .int .i64 3, .int .i64 g, .int .i64 t, .int .i64 r, .int .i64 a, .int .i64 b, .int .i64 (tow o 0 10), .bool m]) (by simp [results, Try.results67, go_sem, *]) rfl ⟨rfl, ?_⟩
  repeat (first | exact Below.refl _ _ | assumption | exact unhide BB | refine Below.setCell ?_ (by simp; try omega) _ | refine Below.alloc ?_ (by simp; try omega) _)
set_option maxRecDepth 20000 in
set_option maxHeartbeats 3000000 in
theorem latTick_held (v g t r a b o : Int) (m : Bool) (w : World) (ha : 0 ≤ a ∧ a ≤ 359) (hb : 0 ≤ b ∧ b ≤ 359) (ho : -10000 ≤ o ∧ o ≤ 10000) (hd : (o.natAbs : Int) ≤ 20) :
    Calls Try.prog 67 #[.agg #[.int .i64 v, .int .i64 2, .int .i64 g, .int .i64 t, .int .i64 r, .int .i64 a, .int .i64 b, .int .i64 o, .bool m]] w fun e w' => e = .returned (.agg #[.int .i64 v, .int .i64 2, .int .i64 g, .int .i64 t, .int .i64 r, .int .i64 a, .int .i64 b, .int .i64 0, .bool m]) ∧ Below w.heap.size w w' := by
  have HB := hide (And.intro ha (And.intro hb ho))
  go_enter Try.func67, Try.ntmps67
  go_wp2_with (fail)
  refine wp_scope_n 3 ?_
  intro Q1 hQ1
  have HQ1 := hide hQ1
  clear hQ1
  go_wp2_with (fail)
  go_step3
  refine (show Q1 (.goto 2) _ _ from jumps_goto (unhide HQ1) rfl ?_)
  intro Q2 hQ2
  have HQ2 := hide hQ2
  clear hQ2 HQ1
  go_wp2_with (first | (go_at_call 82; refine (turned_any _ _ _ (by omega) (by omega)).mono ?_; rintro e w' ⟨rfl, hw⟩; subst w') | (go_at_call 80; refine (sizeOf_any _ _ (by omega)).mono ?_; rintro e w' ⟨rfl, hw⟩; subst w') | (go_at_call 81; refine (toward_is _ _ _ _ (by omega) (by omega) rfl).mono ?_; rintro e w' ⟨rfl, hw⟩; subst w'))
  refine jumps_ret (unhide HQ2) ?_
  clear HQ2
  refine bodyPost_ret (v := .agg #[.int .i64 v, .int .i64 2, .int .i64 g, .int .i64 t, .int .i64 r, .int .i64 a, .int .i64 b, .int .i64 0, .bool m]) (by simp [results, Try.results67, go_sem, *]) rfl ⟨rfl, ?_⟩
  repeat (first | exact Below.refl _ _ | assumption | exact unhide BB | refine Below.setCell ?_ (by simp; try omega) _ | refine Below.alloc ?_ (by simp; try omega) _)
set_option maxRecDepth 20000 in
set_option maxHeartbeats 3000000 in
theorem latTick_lost (v g t r a b o : Int) (m : Bool) (w : World) (ha : 0 ≤ a ∧ a ≤ 359) (hb : 0 ≤ b ∧ b ≤ 359) (ho : -10000 ≤ o ∧ o ≤ 10000) (hd : 20 < (o.natAbs : Int)) :
    Calls Try.prog 67 #[.agg #[.int .i64 v, .int .i64 2, .int .i64 g, .int .i64 t, .int .i64 r, .int .i64 a, .int .i64 b, .int .i64 o, .bool m]] w fun e w' => e = .returned (.agg #[.int .i64 v, .int .i64 3, .int .i64 g, .int .i64 t, .int .i64 r, .int .i64 a, .int .i64 b, .int .i64 o, .bool m]) ∧ Below w.heap.size w w' := by
  have HB := hide (And.intro ha (And.intro hb ho))
  go_enter Try.func67, Try.ntmps67
  go_wp2_with (fail)
  refine wp_scope_n 3 ?_
  intro Q1 hQ1
  have HQ1 := hide hQ1
  clear hQ1
  go_wp2_with (fail)
  go_step3
  refine (show Q1 (.goto 2) _ _ from jumps_goto (unhide HQ1) rfl ?_)
  intro Q2 hQ2
  have HQ2 := hide hQ2
  clear hQ2 HQ1
  go_wp2_with (first | (go_at_call 82; refine (turned_any _ _ _ (by omega) (by omega)).mono ?_; rintro e w' ⟨rfl, hw⟩; subst w') | (go_at_call 80; refine (sizeOf_any _ _ (by omega)).mono ?_; rintro e w' ⟨rfl, hw⟩; subst w') | (go_at_call 81; refine (toward_is _ _ _ _ (by omega) (by omega) rfl).mono ?_; rintro e w' ⟨rfl, hw⟩; subst w'))
  go_step3
  refine (show Q2 (.goto 3) _ _ from jumps_goto (unhide HQ2) rfl ?_)
  intro Q3 hQ3
  have HQ3 := hide hQ3
  clear hQ3 HQ2
  go_wp2_with (first | (go_at_call 82; refine (turned_any _ _ _ (by omega) (by omega)).mono ?_; rintro e w' ⟨rfl, hw⟩; subst w') | (go_at_call 80; refine (sizeOf_any _ _ (by omega)).mono ?_; rintro e w' ⟨rfl, hw⟩; subst w') | (go_at_call 81; refine (toward_is _ _ _ _ (by omega) (by omega) rfl).mono ?_; rintro e w' ⟨rfl, hw⟩; subst w'))
  refine jumps_ret (unhide HQ3) ?_
  clear HQ3
  refine bodyPost_ret (v := .agg #[.int .i64 v, .int .i64 3, .int .i64 g, .int .i64 t, .int .i64 r, .int .i64 a, .int .i64 b, .int .i64 o, .bool m]) (by simp [results, Try.results67, go_sem, *]) rfl ⟨rfl, ?_⟩
  repeat (first | exact Below.refl _ _ | assumption | exact unhide BB | refine Below.setCell ?_ (by simp; try omega) _ | refine Below.alloc ?_ (by simp; try omega) _)
theorem latTick_is {L A O : Int} {M : Bool} (v l g t r a b o : Int) (m : Bool) (w : World) (hl : 0 ≤ l ∧ l ≤ 3) (ha : 0 ≤ a ∧ a ≤ 359) (hb : 0 ≤ b ∧ b ≤ 359) (ho : -10000 ≤ o ∧ o ≤ 10000) (hE : ltT l a b o m = (L, A, O, M)) :
    Calls Try.prog 67 #[.agg #[.int .i64 v, .int .i64 l, .int .i64 g, .int .i64 t, .int .i64 r, .int .i64 a, .int .i64 b, .int .i64 o, .bool m]] w fun e w' => e = .returned (.agg #[.int .i64 v, .int .i64 L, .int .i64 g, .int .i64 t, .int .i64 r, .int .i64 A, .int .i64 b, .int .i64 O, .bool M]) ∧ Below w.heap.size w w' := by
  rcases (by omega : l = 0 ∨ l = 1 ∨ l = 2 ∨ l = 3) with rfl | rfl | rfl | rfl
  · simp [ltT] at hE
    obtain ⟨rfl, rfl, rfl, rfl⟩ := hE
    exact latTick_still v g t r a b o m w ha hb ho
  · cases m
    · simp [ltT] at hE
      obtain ⟨rfl, rfl, rfl, rfl⟩ := hE
      exact latTick_turn v g t r a b o w ha hb ho
    · by_cases hd : (o.natAbs : Int) ≤ 50
      · simp [ltT, hd] at hE
        obtain ⟨rfl, rfl, rfl, rfl⟩ := hE
        exact latTick_armed v g t r a b o w ha hb ho hd
      · simp [ltT, hd] at hE
        obtain ⟨rfl, rfl, rfl, rfl⟩ := hE
        exact latTick_off v g t r a b o w ha hb ho (by omega)
  · by_cases hd : (o.natAbs : Int) ≤ 20
    · simp [ltT, hd] at hE
      obtain ⟨rfl, rfl, rfl, rfl⟩ := hE
      exact latTick_held v g t r a b o m w ha hb ho hd
    · simp [ltT, hd] at hE
      obtain ⟨rfl, rfl, rfl, rfl⟩ := hE
      exact latTick_lost v g t r a b o m w ha hb ho (by omega)
  · by_cases hd : tow o 0 10 = 0
    · simp [ltT, hd] at hE
      obtain ⟨rfl, rfl, rfl, rfl⟩ := hE
      exact latTick_on v g t r a b o m w ha hb ho hd
    · simp [ltT, hd] at hE
      obtain ⟨rfl, rfl, rfl, rfl⟩ := hE
      exact latTick_nearer v g t r a b o m w ha hb ho hd

end Go.Proofs.Ytfahhjgpgccdhad
