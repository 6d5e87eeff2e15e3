/-
  What PilotTick answers in the program: as the plain function. At every pilot and drift; nothing that was there is written.
-/
import Derived.Test.YtfahhjgpgccdhadApVertI
import Derived.Test.YtfahhjgpgccdhadApFar
namespace Go.Proofs.Ytfahhjgpgccdhad
open Go.RowKit

set_option maxRecDepth 20000 in
set_option maxHeartbeats 3000000 in
theorem implPilotTick_no (v l g t r a b o : Int) (m : Bool) (d : Int) (w : World) (hn : okT ⟨v, l, g, t, r, a, b, o, m⟩ d = false) :
    Calls Try.prog 31 #[.agg #[.int .i64 v, .int .i64 l, .int .i64 g, .int .i64 t, .int .i64 r, .int .i64 a, .int .i64 b, .int .i64 o, .bool m], .int .i64 d] w fun e w' => e = .returned (.tuple #[.agg #[.int .i64 0, .int .i64 0, .int .i64 0, .int .i64 0, .int .i64 0, .int .i64 0, .int .i64 0, .int .i64 0, .bool false], .bool false]) ∧ Below w.heap.size w w' := by
  cases hk : apOk ⟨v, l, g, t, r, a, b, o, m⟩
  · clear hn
    go_enter Try.func31, Try.ntmps31
    go_wp2_with (first | (go_at_call 28; refine (implPilotOk_is _ _ _ _ _ _ _ _ _ _ hk).mono ?_; rintro e w1 ⟨rfl, hw⟩; subst w1) | (go_at_call 33; refine (within_is _ _ _ _ rfl).mono ?_; rintro e w' ⟨rfl, hw⟩; subst w'))
    refine bodyPost_ret (v := .tuple #[.agg #[.int .i64 0, .int .i64 0, .int .i64 0, .int .i64 0, .int .i64 0, .int .i64 0, .int .i64 0, .int .i64 0, .bool false], .bool false]) (by simp [results, Try.results31, go_sem, *]) rfl ⟨rfl, ?_⟩
    repeat (first | exact Below.refl _ _ | assumption | exact unhide BB | refine Below.setCell ?_ (by simp; try omega) _ | refine Below.alloc ?_ (by simp; try omega) _)
  · have hi : inB d (-100) 100 = false := by simpa [okT, hk] using hn
    clear hn
    go_enter Try.func31, Try.ntmps31
    go_wp2_with (first | (go_at_call 28; refine (implPilotOk_is _ _ _ _ _ _ _ _ _ _ hk).mono ?_; rintro e w1 ⟨rfl, hw⟩; subst w1) | (go_at_call 33; refine (within_is _ _ _ _ hi).mono ?_; rintro e w' ⟨rfl, hw⟩; subst w'))
    refine bodyPost_ret (v := .tuple #[.agg #[.int .i64 0, .int .i64 0, .int .i64 0, .int .i64 0, .int .i64 0, .int .i64 0, .int .i64 0, .int .i64 0, .bool false], .bool false]) (by simp [results, Try.results31, go_sem, *]) rfl ⟨rfl, ?_⟩
    repeat (first | exact Below.refl _ _ | assumption | exact unhide BB | refine Below.setCell ?_ (by simp; try omega) _ | refine Below.alloc ?_ (by simp; try omega) _)
set_option maxRecDepth 20000 in
set_option maxHeartbeats 3000000 in
theorem implPilotTick_lo {V H R : Int} (v l g t r a b o : Int) (m : Bool) (d : Int) (w : World) (hk : apOk ⟨v, l, g, t, r, a, b, o, m⟩ = true) (hi : inB d (-100) 100 = true) (hE : vtT v g t r = (V, H, R)) {L A E : Int} {M : Bool} (hc : o + d < -10000) (hL : ltT l a b (-10000) m = (L, A, E, M)) :
    Calls Try.prog 31 #[.agg #[.int .i64 v, .int .i64 l, .int .i64 g, .int .i64 t, .int .i64 r, .int .i64 a, .int .i64 b, .int .i64 o, .bool m], .int .i64 d] w fun e w' => e = .returned (.tuple #[.agg #[.int .i64 V, .int .i64 L, .int .i64 H, .int .i64 t, .int .i64 R, .int .i64 A, .int .i64 b, .int .i64 E, .bool M], .bool true]) ∧ Below w.heap.size w w' := by
  obtain ⟨fv, fl, fg, ft, fr, fa, fb, fo⟩ := apOk_facts hk
  have fd := in_facts hi
  have HL := hide hL
  clear hL
  have HE := hide hE
  clear hE
  go_enter Try.func31, Try.ntmps31
  go_wp2_with (first | (go_at_call 28; refine (implPilotOk_is _ _ _ _ _ _ _ _ _ _ hk).mono ?_; rintro e w1 ⟨rfl, hw⟩; subst w1) | (go_at_call 33; refine (within_is _ _ _ _ hi).mono ?_; rintro e w' ⟨rfl, hw⟩; subst w') | ((with_reducible show Calls _ 66 _ _ _); fail))
  go_at_call 66
  refine (vertTick_is _ _ _ _ _ _ _ _ _ _ fv fg ft fr (unhide HE)).mono ?_
  rintro e w3 ⟨rfl, b3⟩
  have B0 : Hid (Blk w3 w.heap.size [.int .i64 v, .int .i64 l, .int .i64 g, .int .i64 t, .int .i64 r, .int .i64 a, .int .i64 b, .int .i64 o, .bool m]) := hide (blkAt3_0.below b3)
  have B1 : Hid (Blk w3 (w.heap.size + 1) [.int .i64 0, .int .i64 0, .int .i64 0, .int .i64 0, .int .i64 0, .int .i64 0, .int .i64 0, .int .i64 0, .bool false]) := hide (blkAt3_1.below b3)
  have BB : Hid (Below w.heap.size w w3) := hide ((bel3 _ _ _).trans (b3.mono (by simp; omega)))
  clear b3

  go_wp2_with (first
    | ((with_reducible show wpList _ _ _ (⟨none, .store 64 _ _, _, _, _, none⟩ :: _) _ _); refine at_storeAgg (us := [.int .i64 v, .int .i64 l, .int .i64 g, .int .i64 t, .int .i64 r, .int .i64 a, .int .i64 b, .int .i64 o, .bool m]) (vs := [.int .i64 V, .int .i64 l, .int .i64 H, .int .i64 t, .int .i64 R, .int .i64 a, .int .i64 b, .int .i64 o, .bool m]) Try.sizeOf64 rfl rfl (unhide B0) rfl (by simp [Value.oneCell']) ?_; intro U k0 gg; have BU : Hid (Below w.heap.size w U) := hide ((unhide BB).grown gg (unhide BB).size (fun q hq => by cases hq; simp)); have D1 : Hid (Blk U (w.heap.size + 1) [.int .i64 0, .int .i64 0, .int .i64 0, .int .i64 0, .int .i64 0, .int .i64 0, .int .i64 0, .int .i64 0, .bool false]) := hide ((unhide B1).apart gg (by simp)); have c1 : U.cell? ⟨w.heap.size, 1, none⟩ = some (.int .i64 l) := k0.c 1 (by simp); have y1 : U.frozen? ⟨w.heap.size, 1, none⟩ = false := k0.f 1 (by simp); have c5 : U.cell? ⟨w.heap.size, 5, none⟩ = some (.int .i64 a) := k0.c 5 (by simp); have y5 : U.frozen? ⟨w.heap.size, 5, none⟩ = false := k0.f 5 (by simp); have c6 : U.cell? ⟨w.heap.size, 6, none⟩ = some (.int .i64 b) := k0.c 6 (by simp); have y6 : U.frozen? ⟨w.heap.size, 6, none⟩ = false := k0.f 6 (by simp); have c7 : U.cell? ⟨w.heap.size, 7, none⟩ = some (.int .i64 o) := k0.c 7 (by simp); have y7 : U.frozen? ⟨w.heap.size, 7, none⟩ = false := k0.f 7 (by simp); have c8 : U.cell? ⟨w.heap.size, 8, none⟩ = some (.bool m) := k0.c 8 (by simp); have y8 : U.frozen? ⟨w.heap.size, 8, none⟩ = false := k0.f 8 (by simp); have D0 := hide k0; clear k0 gg)
    | (go_at_call 67; refine (latTick_is _ _ _ _ _ _ _ _ _ _ fl fa fb (by omega) (unhide HL)).mono ?_; rintro e w5 ⟨rfl, b5⟩; have BT : Hid (Below w.heap.size w w5) := hide (((unhide BU).setCell (by simp) _).trans (b5.mono (by have := (unhide BU).size; simpa [World.setCell] using this))); have E1 : Hid (Blk w5 (w.heap.size + 1) [.int .i64 0, .int .i64 0, .int .i64 0, .int .i64 0, .int .i64 0, .int .i64 0, .int .i64 0, .int .i64 0, .bool false]) := hide (((unhide D1).other (by simp) _).below b5); clear b5)
    | ((with_reducible show wpList _ _ _ (⟨_, .load 64 _, _, _, _, none⟩ :: _) _ _); refine at_loadAgg (vs := [.int .i64 V, .int .i64 l, .int .i64 H, .int .i64 t, .int .i64 R, .int .i64 a, .int .i64 b, .int .i64 (-10000), .bool m]) Try.isAgg64 Try.sizeOf64 rfl (by simpa using (unhide D0).set 7 (by simp) (.int .i64 (-10000))) ?_)
    | ((with_reducible show wpList _ _ _ (⟨none, .store 64 _ _, _, _, _, none⟩ :: _) _ _); refine at_storeAgg (us := [.int .i64 0, .int .i64 0, .int .i64 0, .int .i64 0, .int .i64 0, .int .i64 0, .int .i64 0, .int .i64 0, .bool false]) (vs := [.int .i64 V, .int .i64 L, .int .i64 H, .int .i64 t, .int .i64 R, .int .i64 A, .int .i64 b, .int .i64 E, .bool M]) Try.sizeOf64 rfl rfl (unhide E1) rfl (by simp [Value.oneCell']) ?_; intro w2 kk gg))
  have BW : Below w.heap.size w w2 := by
    refine Below.grown ?_ gg ?_ (fun q hq => by cases hq; simp)
    · repeat (first | exact unhide BU | exact unhide BT | refine Below.setCell ?_ (by simp) _)
    · have := (unhide BT).size; first | exact this | (simp [World.setCell]; omega) | (simpa [World.setCell] using this)
  have BE := hide BW
  exact bodyPost_ret (results_cellB (vs := [.int .i64 V, .int .i64 L, .int .i64 H, .int .i64 t, .int .i64 R, .int .i64 A, .int .i64 b, .int .i64 E, .bool M]) rfl Try.isAgg64 Try.sizeOf64 rfl kk rfl) rfl ⟨rfl, unhide BE⟩
set_option maxRecDepth 20000 in
set_option maxHeartbeats 3000000 in
theorem implPilotTick_hi {V H R : Int} (v l g t r a b o : Int) (m : Bool) (d : Int) (w : World) (hk : apOk ⟨v, l, g, t, r, a, b, o, m⟩ = true) (hi : inB d (-100) 100 = true) (hE : vtT v g t r = (V, H, R)) {L A E : Int} {M : Bool} (hc : 10000 < o + d) (hL : ltT l a b 10000 m = (L, A, E, M)) :
    Calls Try.prog 31 #[.agg #[.int .i64 v, .int .i64 l, .int .i64 g, .int .i64 t, .int .i64 r, .int .i64 a, .int .i64 b, .int .i64 o, .bool m], .int .i64 d] w fun e w' => e = .returned (.tuple #[.agg #[.int .i64 V, .int .i64 L, .int .i64 H, .int .i64 t, .int .i64 R, .int .i64 A, .int .i64 b, .int .i64 E, .bool M], .bool true]) ∧ Below w.heap.size w w' := by
  obtain ⟨fv, fl, fg, ft, fr, fa, fb, fo⟩ := apOk_facts hk
  have fd := in_facts hi
  have HL := hide hL
  clear hL
  have HE := hide hE
  clear hE
  go_enter Try.func31, Try.ntmps31
  go_wp2_with (first | (go_at_call 28; refine (implPilotOk_is _ _ _ _ _ _ _ _ _ _ hk).mono ?_; rintro e w1 ⟨rfl, hw⟩; subst w1) | (go_at_call 33; refine (within_is _ _ _ _ hi).mono ?_; rintro e w' ⟨rfl, hw⟩; subst w') | ((with_reducible show Calls _ 66 _ _ _); fail))
  go_at_call 66
  refine (vertTick_is _ _ _ _ _ _ _ _ _ _ fv fg ft fr (unhide HE)).mono ?_
  rintro e w3 ⟨rfl, b3⟩
  have B0 : Hid (Blk w3 w.heap.size [.int .i64 v, .int .i64 l, .int .i64 g, .int .i64 t, .int .i64 r, .int .i64 a, .int .i64 b, .int .i64 o, .bool m]) := hide (blkAt3_0.below b3)
  have B1 : Hid (Blk w3 (w.heap.size + 1) [.int .i64 0, .int .i64 0, .int .i64 0, .int .i64 0, .int .i64 0, .int .i64 0, .int .i64 0, .int .i64 0, .bool false]) := hide (blkAt3_1.below b3)
  have BB : Hid (Below w.heap.size w w3) := hide ((bel3 _ _ _).trans (b3.mono (by simp; omega)))
  clear b3

  go_wp2_with (first
    | ((with_reducible show wpList _ _ _ (⟨none, .store 64 _ _, _, _, _, none⟩ :: _) _ _); refine at_storeAgg (us := [.int .i64 v, .int .i64 l, .int .i64 g, .int .i64 t, .int .i64 r, .int .i64 a, .int .i64 b, .int .i64 o, .bool m]) (vs := [.int .i64 V, .int .i64 l, .int .i64 H, .int .i64 t, .int .i64 R, .int .i64 a, .int .i64 b, .int .i64 o, .bool m]) Try.sizeOf64 rfl rfl (unhide B0) rfl (by simp [Value.oneCell']) ?_; intro U k0 gg; have BU : Hid (Below w.heap.size w U) := hide ((unhide BB).grown gg (unhide BB).size (fun q hq => by cases hq; simp)); have D1 : Hid (Blk U (w.heap.size + 1) [.int .i64 0, .int .i64 0, .int .i64 0, .int .i64 0, .int .i64 0, .int .i64 0, .int .i64 0, .int .i64 0, .bool false]) := hide ((unhide B1).apart gg (by simp)); have c1 : U.cell? ⟨w.heap.size, 1, none⟩ = some (.int .i64 l) := k0.c 1 (by simp); have y1 : U.frozen? ⟨w.heap.size, 1, none⟩ = false := k0.f 1 (by simp); have c5 : U.cell? ⟨w.heap.size, 5, none⟩ = some (.int .i64 a) := k0.c 5 (by simp); have y5 : U.frozen? ⟨w.heap.size, 5, none⟩ = false := k0.f 5 (by simp); have c6 : U.cell? ⟨w.heap.size, 6, none⟩ = some (.int .i64 b) := k0.c 6 (by simp); have y6 : U.frozen? ⟨w.heap.size, 6, none⟩ = false := k0.f 6 (by simp); have c7 : U.cell? ⟨w.heap.size, 7, none⟩ = some (.int .i64 o) := k0.c 7 (by simp); have y7 : U.frozen? ⟨w.heap.size, 7, none⟩ = false := k0.f 7 (by simp); have c8 : U.cell? ⟨w.heap.size, 8, none⟩ = some (.bool m) := k0.c 8 (by simp); have y8 : U.frozen? ⟨w.heap.size, 8, none⟩ = false := k0.f 8 (by simp); have D0 := hide k0; clear k0 gg)
    | (go_at_call 67; refine (latTick_is _ _ _ _ _ _ _ _ _ _ fl fa fb (by omega) (unhide HL)).mono ?_; rintro e w5 ⟨rfl, b5⟩; have BT : Hid (Below w.heap.size w w5) := hide (((unhide BU).setCell (by simp) _).trans (b5.mono (by have := (unhide BU).size; simpa [World.setCell] using this))); have E1 : Hid (Blk w5 (w.heap.size + 1) [.int .i64 0, .int .i64 0, .int .i64 0, .int .i64 0, .int .i64 0, .int .i64 0, .int .i64 0, .int .i64 0, .bool false]) := hide (((unhide D1).other (by simp) _).below b5); clear b5)
    | ((with_reducible show wpList _ _ _ (⟨_, .load 64 _, _, _, _, none⟩ :: _) _ _); refine at_loadAgg (vs := [.int .i64 V, .int .i64 l, .int .i64 H, .int .i64 t, .int .i64 R, .int .i64 a, .int .i64 b, .int .i64 10000, .bool m]) Try.isAgg64 Try.sizeOf64 rfl (by simpa using (unhide D0).set 7 (by simp) (.int .i64 10000)) ?_)
    | ((with_reducible show wpList _ _ _ (⟨none, .store 64 _ _, _, _, _, none⟩ :: _) _ _); refine at_storeAgg (us := [.int .i64 0, .int .i64 0, .int .i64 0, .int .i64 0, .int .i64 0, .int .i64 0, .int .i64 0, .int .i64 0, .bool false]) (vs := [.int .i64 V, .int .i64 L, .int .i64 H, .int .i64 t, .int .i64 R, .int .i64 A, .int .i64 b, .int .i64 E, .bool M]) Try.sizeOf64 rfl rfl (unhide E1) rfl (by simp [Value.oneCell']) ?_; intro w2 kk gg))
  have BW : Below w.heap.size w w2 := by
    refine Below.grown ?_ gg ?_ (fun q hq => by cases hq; simp)
    · repeat (first | exact unhide BU | exact unhide BT | refine Below.setCell ?_ (by simp) _)
    · have := (unhide BT).size; first | exact this | (simp [World.setCell]; omega) | (simpa [World.setCell] using this)
  have BE := hide BW
  exact bodyPost_ret (results_cellB (vs := [.int .i64 V, .int .i64 L, .int .i64 H, .int .i64 t, .int .i64 R, .int .i64 A, .int .i64 b, .int .i64 E, .bool M]) rfl Try.isAgg64 Try.sizeOf64 rfl kk rfl) rfl ⟨rfl, unhide BE⟩
set_option maxRecDepth 20000 in
set_option maxHeartbeats 3000000 in
theorem implPilotTick_mid {V H R : Int} (v l g t r a b o : Int) (m : Bool) (d : Int) (w : World) (hk : apOk ⟨v, l, g, t, r, a, b, o, m⟩ = true) (hi : inB d (-100) 100 = true) (hE : vtT v g t r = (V, H, R)) {L A E : Int} {M : Bool} (hc : -10000 ≤ o + d ∧ o + d ≤ 10000) (hL : ltT l a b (o + d) m = (L, A, E, M)) :
    Calls Try.prog 31 #[.agg #[.int .i64 v, .int .i64 l, .int .i64 g, .int .i64 t, .int .i64 r, .int .i64 a, .int .i64 b, .int .i64 o, .bool m], .int .i64 d] w fun e w' => e = .returned (.tuple #[.agg #[.int .i64 V, .int .i64 L, .int .i64 H, .int .i64 t, .int .i64 R, .int .i64 A, .int .i64 b, .int .i64 E, .bool M], .bool true]) ∧ Below w.heap.size w w' := by
  obtain ⟨fv, fl, fg, ft, fr, fa, fb, fo⟩ := apOk_facts hk
  have fd := in_facts hi
  have HL := hide hL
  clear hL
  have HE := hide hE
  clear hE
  go_enter Try.func31, Try.ntmps31
  go_wp2_with (first | (go_at_call 28; refine (implPilotOk_is _ _ _ _ _ _ _ _ _ _ hk).mono ?_; rintro e w1 ⟨rfl, hw⟩; subst w1) | (go_at_call 33; refine (within_is _ _ _ _ hi).mono ?_; rintro e w' ⟨rfl, hw⟩; subst w') | ((with_reducible show Calls _ 66 _ _ _); fail))
  go_at_call 66
  refine (vertTick_is _ _ _ _ _ _ _ _ _ _ fv fg ft fr (unhide HE)).mono ?_
  rintro e w3 ⟨rfl, b3⟩
  have B0 : Hid (Blk w3 w.heap.size [.int .i64 v, .int .i64 l, .int .i64 g, .int .i64 t, .int .i64 r, .int .i64 a, .int .i64 b, .int .i64 o, .bool m]) := hide (blkAt3_0.below b3)
  have B1 : Hid (Blk w3 (w.heap.size + 1) [.int .i64 0, .int .i64 0, .int .i64 0, .int .i64 0, .int .i64 0, .int .i64 0, .int .i64 0, .int .i64 0, .bool false]) := hide (blkAt3_1.below b3)
  have BB : Hid (Below w.heap.size w w3) := hide ((bel3 _ _ _).trans (b3.mono (by simp; omega)))
  clear b3

  go_wp2_with (first
    | ((with_reducible show wpList _ _ _ (⟨none, .store 64 _ _, _, _, _, none⟩ :: _) _ _); refine at_storeAgg (us := [.int .i64 v, .int .i64 l, .int .i64 g, .int .i64 t, .int .i64 r, .int .i64 a, .int .i64 b, .int .i64 o, .bool m]) (vs := [.int .i64 V, .int .i64 l, .int .i64 H, .int .i64 t, .int .i64 R, .int .i64 a, .int .i64 b, .int .i64 o, .bool m]) Try.sizeOf64 rfl rfl (unhide B0) rfl (by simp [Value.oneCell']) ?_; intro U k0 gg; have BU : Hid (Below w.heap.size w U) := hide ((unhide BB).grown gg (unhide BB).size (fun q hq => by cases hq; simp)); have D1 : Hid (Blk U (w.heap.size + 1) [.int .i64 0, .int .i64 0, .int .i64 0, .int .i64 0, .int .i64 0, .int .i64 0, .int .i64 0, .int .i64 0, .bool false]) := hide ((unhide B1).apart gg (by simp)); have c1 : U.cell? ⟨w.heap.size, 1, none⟩ = some (.int .i64 l) := k0.c 1 (by simp); have y1 : U.frozen? ⟨w.heap.size, 1, none⟩ = false := k0.f 1 (by simp); have c5 : U.cell? ⟨w.heap.size, 5, none⟩ = some (.int .i64 a) := k0.c 5 (by simp); have y5 : U.frozen? ⟨w.heap.size, 5, none⟩ = false := k0.f 5 (by simp); have c6 : U.cell? ⟨w.heap.size, 6, none⟩ = some (.int .i64 b) := k0.c 6 (by simp); have y6 : U.frozen? ⟨w.heap.size, 6, none⟩ = false := k0.f 6 (by simp); have c7 : U.cell? ⟨w.heap.size, 7, none⟩ = some (.int .i64 o) := k0.c 7 (by simp); have y7 : U.frozen? ⟨w.heap.size, 7, none⟩ = false := k0.f 7 (by simp); have c8 : U.cell? ⟨w.heap.size, 8, none⟩ = some (.bool m) := k0.c 8 (by simp); have y8 : U.frozen? ⟨w.heap.size, 8, none⟩ = false := k0.f 8 (by simp); have D0 := hide k0; clear k0 gg)
    | (go_at_call 67; refine (latTick_is _ _ _ _ _ _ _ _ _ _ fl fa fb (by omega) (unhide HL)).mono ?_; rintro e w5 ⟨rfl, b5⟩; have BT : Hid (Below w.heap.size w w5) := hide (((unhide BU).setCell (by simp) _).trans (b5.mono (by have := (unhide BU).size; simpa [World.setCell] using this))); have E1 : Hid (Blk w5 (w.heap.size + 1) [.int .i64 0, .int .i64 0, .int .i64 0, .int .i64 0, .int .i64 0, .int .i64 0, .int .i64 0, .int .i64 0, .bool false]) := hide (((unhide D1).other (by simp) _).below b5); clear b5)
    | ((with_reducible show wpList _ _ _ (⟨_, .load 64 _, _, _, _, none⟩ :: _) _ _); refine at_loadAgg (vs := [.int .i64 V, .int .i64 l, .int .i64 H, .int .i64 t, .int .i64 R, .int .i64 a, .int .i64 b, .int .i64 ((o + d)), .bool m]) Try.isAgg64 Try.sizeOf64 rfl (by simpa using (unhide D0).set 7 (by simp) (.int .i64 (o + d))) ?_)
    | ((with_reducible show wpList _ _ _ (⟨none, .store 64 _ _, _, _, _, none⟩ :: _) _ _); refine at_storeAgg (us := [.int .i64 0, .int .i64 0, .int .i64 0, .int .i64 0, .int .i64 0, .int .i64 0, .int .i64 0, .int .i64 0, .bool false]) (vs := [.int .i64 V, .int .i64 L, .int .i64 H, .int .i64 t, .int .i64 R, .int .i64 A, .int .i64 b, .int .i64 E, .bool M]) Try.sizeOf64 rfl rfl (unhide E1) rfl (by simp [Value.oneCell']) ?_; intro w2 kk gg))
  have BW : Below w.heap.size w w2 := by
    refine Below.grown ?_ gg ?_ (fun q hq => by cases hq; simp)
    · repeat (first | exact unhide BU | exact unhide BT | refine Below.setCell ?_ (by simp) _)
    · have := (unhide BT).size; first | exact this | (simp [World.setCell]; omega) | (simpa [World.setCell] using this)
  have BE := hide BW
  exact bodyPost_ret (results_cellB (vs := [.int .i64 V, .int .i64 L, .int .i64 H, .int .i64 t, .int .i64 R, .int .i64 A, .int .i64 b, .int .i64 E, .bool M]) rfl Try.isAgg64 Try.sizeOf64 rfl kk rfl) rfl ⟨rfl, unhide BE⟩
theorem implPilotTick_any (v l g t r a b o : Int) (m : Bool) (d : Int) (w : World) :
    Calls Try.prog 31 #[.agg #[.int .i64 v, .int .i64 l, .int .i64 g, .int .i64 t, .int .i64 r, .int .i64 a, .int .i64 b, .int .i64 o, .bool m], .int .i64 d] w fun e w' => e = .returned (.tuple #[.agg #[.int .i64 (tickP ⟨v, l, g, t, r, a, b, o, m⟩ d).a0, .int .i64 (tickP ⟨v, l, g, t, r, a, b, o, m⟩ d).a1, .int .i64 (tickP ⟨v, l, g, t, r, a, b, o, m⟩ d).a2, .int .i64 (tickP ⟨v, l, g, t, r, a, b, o, m⟩ d).a3, .int .i64 (tickP ⟨v, l, g, t, r, a, b, o, m⟩ d).a4, .int .i64 (tickP ⟨v, l, g, t, r, a, b, o, m⟩ d).a5, .int .i64 (tickP ⟨v, l, g, t, r, a, b, o, m⟩ d).a6, .int .i64 (tickP ⟨v, l, g, t, r, a, b, o, m⟩ d).a7, .bool (tickP ⟨v, l, g, t, r, a, b, o, m⟩ d).a8], .bool (okT ⟨v, l, g, t, r, a, b, o, m⟩ d)]) ∧ Below w.heap.size w w' := by
  cases hb : okT ⟨v, l, g, t, r, a, b, o, m⟩ d
  · have hT : tickP ⟨v, l, g, t, r, a, b, o, m⟩ d = ⟨0, 0, 0, 0, 0, 0, 0, 0, false⟩ := by simp [tickP, hb]
    rw [hT]
    exact implPilotTick_no v l g t r a b o m d w hb
  obtain ⟨hk, hi⟩ : apOk ⟨v, l, g, t, r, a, b, o, m⟩ = true ∧ inB d (-100) 100 = true := by simpa [okT] using hb
  obtain ⟨⟨V, H, R⟩, hE⟩ : ∃ x, vtT v g t r = x := ⟨_, rfl⟩
  obtain ⟨⟨L, A, E, M⟩, hL⟩ : ∃ x, ltT l a b (offR o d) m = x := ⟨_, rfl⟩
  have hT : tickP ⟨v, l, g, t, r, a, b, o, m⟩ d = ⟨V, L, H, t, R, A, b, E, M⟩ := by simp [tickP, hb, hE, hL]
  rw [hT]
  clear hT hb
  obtain ⟨fv, fl, fg, ft, fr, fa, fb, fo⟩ := apOk_facts hk
  by_cases h1 : o + d < -10000
  · rw [show offR o d = -10000 by unfold offR; omega] at hL
    exact implPilotTick_lo v l g t r a b o m d w hk hi hE h1 hL
  by_cases h2 : 10000 < o + d
  · rw [show offR o d = 10000 by unfold offR; omega] at hL
    exact implPilotTick_hi v l g t r a b o m d w hk hi hE h2 hL
  · rw [show offR o d = o + d by unfold offR; omega] at hL
    exact implPilotTick_mid v l g t r a b o m d w hk hi hE (by omega) hL

end Go.Proofs.Ytfahhjgpgccdhad
