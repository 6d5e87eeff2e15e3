/-
  What PilotTick answers in the model: as the plain function. At every pilot and drift; nothing that was there is written.
-/
import Derived.Test.YtfahhjgpgccdhasApVertS
import Derived.Test.YtfahhjgpgccdhasApFar
namespace Go.Proofs.Ytfahhjgpgccdhas
open Go.RowKit

set_option maxRecDepth 20000 in
set_option maxHeartbeats 3000000 in
theorem specPilotTick_no (v l g t r a b o : Int) (m : Bool) (d : Int) (w : World) (hn : okT ⟨v, l, g, t, r, a, b, o, m⟩ d = false) :
    Calls Try.prog 17 #[.agg #[.int .i64 v, .int .i64 l, .int .i64 g, .int .i64 t, .int .i64 r, .int .i64 a, .int .i64 b, .int .i64 o, .bool m], .int .i64 d] w fun e w' => e = .returned (.tuple #[.agg #[.int .i64 0, .int .i64 0, .int .i64 0, .int .i64 0, .int .i64 0, .int .i64 0, .int .i64 0, .int .i64 0, .bool false], .bool false]) ∧ Below w.heap.size w w' := by
  cases hk : apOk ⟨v, l, g, t, r, a, b, o, m⟩
  · clear hn
    go_enter Try.func17, Try.ntmps17
    go_wp2_with (first | (go_at_call 11; refine (specPilotOk_is _ _ _ _ _ _ _ _ _ _ hk).mono ?_; rintro e w1 ⟨rfl, hw⟩; subst w1) | (go_at_call 31; refine (l1In_is _ _ _ _ rfl).mono ?_; rintro e w' ⟨rfl, hw⟩; subst w'))
    refine bodyPost_ret (v := .tuple #[.agg #[.int .i64 0, .int .i64 0, .int .i64 0, .int .i64 0, .int .i64 0, .int .i64 0, .int .i64 0, .int .i64 0, .bool false], .bool false]) (by simp [results, Try.results17, go_sem, *]) rfl ⟨rfl, ?_⟩
    repeat (first | exact Below.refl _ _ | assumption | exact unhide BB | refine Below.setCell ?_ (by simp; try omega) _ | refine Below.alloc ?_ (by simp; try omega) _)
  · have hi : inB d (-100) 100 = false := by simpa [okT, hk] using hn
    clear hn
    go_enter Try.func17, Try.ntmps17
    go_wp2_with (first | (go_at_call 11; refine (specPilotOk_is _ _ _ _ _ _ _ _ _ _ hk).mono ?_; rintro e w1 ⟨rfl, hw⟩; subst w1) | (go_at_call 31; refine (l1In_is _ _ _ _ hi).mono ?_; rintro e w' ⟨rfl, hw⟩; subst w'))
    refine bodyPost_ret (v := .tuple #[.agg #[.int .i64 0, .int .i64 0, .int .i64 0, .int .i64 0, .int .i64 0, .int .i64 0, .int .i64 0, .int .i64 0, .bool false], .bool false]) (by simp [results, Try.results17, go_sem, *]) rfl ⟨rfl, ?_⟩
    repeat (first | exact Below.refl _ _ | assumption | exact unhide BB | refine Below.setCell ?_ (by simp; try omega) _ | refine Below.alloc ?_ (by simp; try omega) _)
set_option maxRecDepth 20000 in
set_option maxHeartbeats 3000000 in
theorem specPilotTick_l0 {V H R O : Int} (v g t r a b o : Int) (m : Bool) (d : Int) (w : World) (hk : apOk ⟨v, 0, g, t, r, a, b, o, m⟩ = true) (hi : inB d (-100) 100 = true) (hE : vtT v g t r = (V, H, R)) (hO : offR o d = O) :
    Calls Try.prog 17 #[.agg #[.int .i64 v, .int .i64 0, .int .i64 g, .int .i64 t, .int .i64 r, .int .i64 a, .int .i64 b, .int .i64 o, .bool m], .int .i64 d] w fun e w' => e = .returned (.tuple #[.agg #[.int .i64 V, .int .i64 0, .int .i64 H, .int .i64 t, .int .i64 R, .int .i64 a, .int .i64 b, .int .i64 O, .bool m], .bool true]) ∧ Below w.heap.size w w' := by
  obtain ⟨fv, fl, fg, ft, fr, fa, fb, fo⟩ := apOk_facts hk
  have fd := in_facts hi
  have fO : -10000 ≤ O ∧ O ≤ 10000 := by rw [← hO]; unfold offR; omega
  have HO := hide hO
  clear hO
  have HE := hide hE
  clear hE
  go_enter Try.func17, Try.ntmps17
  go_wp2_with (first | (go_at_call 11; refine (specPilotOk_is _ _ _ _ _ _ _ _ _ _ hk).mono ?_; rintro e w1 ⟨rfl, hw⟩; subst w1) | (go_at_call 31; refine (l1In_is _ _ _ _ hi).mono ?_; rintro e w' ⟨rfl, hw⟩; subst w') | ((with_reducible show Calls _ 44 _ _ _); fail))
  go_at_call 44
  refine (l10Vert_is _ _ _ _ _ _ _ _ _ _ fv fg ft fr (unhide HE)).mono ?_
  rintro e w3 ⟨rfl, b3⟩
  have B0 : Hid (Blk w3 w.heap.size [.int .i64 v, .int .i64 0, .int .i64 g, .int .i64 t, .int .i64 r, .int .i64 a, .int .i64 b, .int .i64 o, .bool m]) := hide (blkAt3_0.below b3)
  have B1 : Hid (Blk w3 (w.heap.size + 1) [.int .i64 0, .int .i64 0, .int .i64 0, .int .i64 0, .int .i64 0, .int .i64 0, .int .i64 0, .int .i64 0, .bool false]) := hide (blkAt3_1.below b3)
  have BB : Hid (Below w.heap.size w w3) := hide ((bel3 _ _ _).trans (b3.mono (by simp; omega)))
  clear b3

  go_wp2_with (first
    | ((with_reducible show wpList _ _ _ (⟨none, .store 28 _ _, _, _, _, none⟩ :: _) _ _); refine at_storeAgg (us := [.int .i64 v, .int .i64 0, .int .i64 g, .int .i64 t, .int .i64 r, .int .i64 a, .int .i64 b, .int .i64 o, .bool m]) (vs := [.int .i64 V, .int .i64 0, .int .i64 H, .int .i64 t, .int .i64 R, .int .i64 a, .int .i64 b, .int .i64 o, .bool m]) Try.sizeOf28 rfl rfl (unhide B0) rfl (by simp [Value.oneCell']) ?_; intro U k0 gg; have BU : Hid (Below w.heap.size w U) := hide ((unhide BB).grown gg (unhide BB).size (fun q hq => by cases hq; simp)); have D1 : Hid (Blk U (w.heap.size + 1) [.int .i64 0, .int .i64 0, .int .i64 0, .int .i64 0, .int .i64 0, .int .i64 0, .int .i64 0, .int .i64 0, .bool false]) := hide ((unhide B1).apart gg (by simp)); have c1 : U.cell? ⟨w.heap.size, 1, none⟩ = some (.int .i64 0) := k0.c 1 (by simp); have y1 : U.frozen? ⟨w.heap.size, 1, none⟩ = false := k0.f 1 (by simp); have c5 : U.cell? ⟨w.heap.size, 5, none⟩ = some (.int .i64 a) := k0.c 5 (by simp); have y5 : U.frozen? ⟨w.heap.size, 5, none⟩ = false := k0.f 5 (by simp); have c6 : U.cell? ⟨w.heap.size, 6, none⟩ = some (.int .i64 b) := k0.c 6 (by simp); have y6 : U.frozen? ⟨w.heap.size, 6, none⟩ = false := k0.f 6 (by simp); have c7 : U.cell? ⟨w.heap.size, 7, none⟩ = some (.int .i64 o) := k0.c 7 (by simp); have y7 : U.frozen? ⟨w.heap.size, 7, none⟩ = false := k0.f 7 (by simp); have c8 : U.cell? ⟨w.heap.size, 8, none⟩ = some (.bool m) := k0.c 8 (by simp); have y8 : U.frozen? ⟨w.heap.size, 8, none⟩ = false := k0.f 8 (by simp); have D0 := hide k0; clear k0 gg)
    | (go_at_call 32; refine (l1Min_eq _ _ _).mono ?_; rintro e w' ⟨rfl, hw⟩; subst w') | (go_at_call 33; refine (l1Max_is _ _ _ (unhide HO)).mono ?_; rintro e w' ⟨rfl, hw⟩; subst w') | (go_at_call 45; refine (l10Turn_any _ _ _ (by omega) (by omega)).mono ?_; rintro e w' ⟨rfl, hw⟩; subst w') | (go_at_call 46; refine (absS_any _ _ (by omega)).mono ?_; rintro e w' ⟨rfl, hw⟩; subst w') | (go_at_call 47; refine (l10Toward_is _ _ _ _ (by omega) (by omega) rfl).mono ?_; rintro e w' ⟨rfl, hw⟩; subst w')
    | ((with_reducible show wpList _ _ _ (⟨_, .load 28 _, _, _, _, none⟩ :: _) _ _); refine at_loadAgg (vs := [.int .i64 V, .int .i64 0, .int .i64 H, .int .i64 t, .int .i64 R, .int .i64 a, .int .i64 b, .int .i64 O, .bool m]) Try.isAgg28 Try.sizeOf28 rfl (by simpa using ((unhide D0).set 7 (by simp) (.int .i64 O))) ?_)
    | ((with_reducible show wpList _ _ _ (⟨none, .store 28 _ _, _, _, _, none⟩ :: _) _ _); refine at_storeAgg (us := [.int .i64 0, .int .i64 0, .int .i64 0, .int .i64 0, .int .i64 0, .int .i64 0, .int .i64 0, .int .i64 0, .bool false]) (vs := [.int .i64 V, .int .i64 0, .int .i64 H, .int .i64 t, .int .i64 R, .int .i64 a, .int .i64 b, .int .i64 O, .bool m]) Try.sizeOf28 rfl rfl (((unhide D1).other (by simp) _)) rfl (by simp [Value.oneCell']) ?_; intro w2 kk gg))
  have BW : Below w.heap.size w w2 := by
    refine Below.grown ?_ gg ?_ (fun q hq => by cases hq; simp)
    · repeat (first | exact unhide BU | exact unhide BT | refine Below.setCell ?_ (by simp) _)
    · have := (unhide BU).size; first | exact this | (simp [World.setCell]; omega) | (simpa [World.setCell] using this)
  have BE := hide BW
  exact bodyPost_ret (results_cellB (vs := [.int .i64 V, .int .i64 0, .int .i64 H, .int .i64 t, .int .i64 R, .int .i64 a, .int .i64 b, .int .i64 O, .bool m]) rfl Try.isAgg28 Try.sizeOf28 rfl kk rfl) rfl ⟨rfl, unhide BE⟩
set_option maxRecDepth 20000 in
set_option maxHeartbeats 3000000 in
theorem specPilotTick_armed {V H R O : Int} (v g t r a b o : Int) (d : Int) (w : World) (hk : apOk ⟨v, 1, g, t, r, a, b, o, true⟩ = true) (hi : inB d (-100) 100 = true) (hE : vtT v g t r = (V, H, R)) (hO : offR o d = O) (hd : (O.natAbs : Int) ≤ 50) :
    Calls Try.prog 17 #[.agg #[.int .i64 v, .int .i64 1, .int .i64 g, .int .i64 t, .int .i64 r, .int .i64 a, .int .i64 b, .int .i64 o, .bool true], .int .i64 d] w fun e w' => e = .returned (.tuple #[.agg #[.int .i64 V, .int .i64 3, .int .i64 H, .int .i64 t, .int .i64 R, .int .i64 (turnR a b), .int .i64 b, .int .i64 O, .bool false], .bool true]) ∧ Below w.heap.size w w' := by
  obtain ⟨fv, fl, fg, ft, fr, fa, fb, fo⟩ := apOk_facts hk
  have fd := in_facts hi
  have fO : -10000 ≤ O ∧ O ≤ 10000 := by rw [← hO]; unfold offR; omega
  have HO := hide hO
  clear hO
  have HE := hide hE
  clear hE
  go_enter Try.func17, Try.ntmps17
  go_wp2_with (first | (go_at_call 11; refine (specPilotOk_is _ _ _ _ _ _ _ _ _ _ hk).mono ?_; rintro e w1 ⟨rfl, hw⟩; subst w1) | (go_at_call 31; refine (l1In_is _ _ _ _ hi).mono ?_; rintro e w' ⟨rfl, hw⟩; subst w') | ((with_reducible show Calls _ 44 _ _ _); fail))
  go_at_call 44
  refine (l10Vert_is _ _ _ _ _ _ _ _ _ _ fv fg ft fr (unhide HE)).mono ?_
  rintro e w3 ⟨rfl, b3⟩
  have B0 : Hid (Blk w3 w.heap.size [.int .i64 v, .int .i64 1, .int .i64 g, .int .i64 t, .int .i64 r, .int .i64 a, .int .i64 b, .int .i64 o, .bool true]) := hide (blkAt3_0.below b3)
  have B1 : Hid (Blk w3 (w.heap.size + 1) [.int .i64 0, .int .i64 0, .int .i64 0, .int .i64 0, .int .i64 0, .int .i64 0, .int .i64 0, .int .i64 0, .bool false]) := hide (blkAt3_1.below b3)
  have BB : Hid (Below w.heap.size w w3) := hide ((bel3 _ _ _).trans (b3.mono (by simp; omega)))
  clear b3

  go_wp2_with (first
    | ((with_reducible show wpList _ _ _ (⟨none, .store 28 _ _, _, _, _, none⟩ :: _) _ _); refine at_storeAgg (us := [.int .i64 v, .int .i64 1, .int .i64 g, .int .i64 t, .int .i64 r, .int .i64 a, .int .i64 b, .int .i64 o, .bool true]) (vs := [.int .i64 V, .int .i64 1, .int .i64 H, .int .i64 t, .int .i64 R, .int .i64 a, .int .i64 b, .int .i64 o, .bool true]) Try.sizeOf28 rfl rfl (unhide B0) rfl (by simp [Value.oneCell']) ?_; intro U k0 gg; have BU : Hid (Below w.heap.size w U) := hide ((unhide BB).grown gg (unhide BB).size (fun q hq => by cases hq; simp)); have D1 : Hid (Blk U (w.heap.size + 1) [.int .i64 0, .int .i64 0, .int .i64 0, .int .i64 0, .int .i64 0, .int .i64 0, .int .i64 0, .int .i64 0, .bool false]) := hide ((unhide B1).apart gg (by simp)); have c1 : U.cell? ⟨w.heap.size, 1, none⟩ = some (.int .i64 1) := k0.c 1 (by simp); have y1 : U.frozen? ⟨w.heap.size, 1, none⟩ = false := k0.f 1 (by simp); have c5 : U.cell? ⟨w.heap.size, 5, none⟩ = some (.int .i64 a) := k0.c 5 (by simp); have y5 : U.frozen? ⟨w.heap.size, 5, none⟩ = false := k0.f 5 (by simp); have c6 : U.cell? ⟨w.heap.size, 6, none⟩ = some (.int .i64 b) := k0.c 6 (by simp); have y6 : U.frozen? ⟨w.heap.size, 6, none⟩ = false := k0.f 6 (by simp); have c7 : U.cell? ⟨w.heap.size, 7, none⟩ = some (.int .i64 o) := k0.c 7 (by simp); have y7 : U.frozen? ⟨w.heap.size, 7, none⟩ = false := k0.f 7 (by simp); have c8 : U.cell? ⟨w.heap.size, 8, none⟩ = some (.bool true) := k0.c 8 (by simp); have y8 : U.frozen? ⟨w.heap.size, 8, none⟩ = false := k0.f 8 (by simp); have D0 := hide k0; clear k0 gg)
    | (go_at_call 32; refine (l1Min_eq _ _ _).mono ?_; rintro e w' ⟨rfl, hw⟩; subst w') | (go_at_call 33; refine (l1Max_is _ _ _ (unhide HO)).mono ?_; rintro e w' ⟨rfl, hw⟩; subst w') | (go_at_call 45; refine (l10Turn_any _ _ _ (by omega) (by omega)).mono ?_; rintro e w' ⟨rfl, hw⟩; subst w') | (go_at_call 46; refine (absS_any _ _ (by omega)).mono ?_; rintro e w' ⟨rfl, hw⟩; subst w') | (go_at_call 47; refine (l10Toward_is _ _ _ _ (by omega) (by omega) rfl).mono ?_; rintro e w' ⟨rfl, hw⟩; subst w')
    | ((with_reducible show wpList _ _ _ (⟨_, .load 28 _, _, _, _, none⟩ :: _) _ _); refine at_loadAgg (vs := [.int .i64 V, .int .i64 3, .int .i64 H, .int .i64 t, .int .i64 R, .int .i64 (turnR a b), .int .i64 b, .int .i64 O, .bool false]) Try.isAgg28 Try.sizeOf28 rfl (by simpa using (((((unhide D0).set 7 (by simp) (.int .i64 O)).set 5 (by simp) (.int .i64 (turnR a b))).set 1 (by simp) (.int .i64 3)).set 8 (by simp) (.bool false))) ?_)
    | ((with_reducible show wpList _ _ _ (⟨none, .store 28 _ _, _, _, _, none⟩ :: _) _ _); refine at_storeAgg (us := [.int .i64 0, .int .i64 0, .int .i64 0, .int .i64 0, .int .i64 0, .int .i64 0, .int .i64 0, .int .i64 0, .bool false]) (vs := [.int .i64 V, .int .i64 3, .int .i64 H, .int .i64 t, .int .i64 R, .int .i64 (turnR a b), .int .i64 b, .int .i64 O, .bool false]) Try.sizeOf28 rfl rfl ((((((unhide D1).other (by simp) _).other (by simp) _).other (by simp) _).other (by simp) _)) rfl (by simp [Value.oneCell']) ?_; intro w2 kk gg))
  have BW : Below w.heap.size w w2 := by
    refine Below.grown ?_ gg ?_ (fun q hq => by cases hq; simp)
    · repeat (first | exact unhide BU | exact unhide BT | refine Below.setCell ?_ (by simp) _)
    · have := (unhide BU).size; first | exact this | (simp [World.setCell]; omega) | (simpa [World.setCell] using this)
  have BE := hide BW
  exact bodyPost_ret (results_cellB (vs := [.int .i64 V, .int .i64 3, .int .i64 H, .int .i64 t, .int .i64 R, .int .i64 (turnR a b), .int .i64 b, .int .i64 O, .bool false]) rfl Try.isAgg28 Try.sizeOf28 rfl kk rfl) rfl ⟨rfl, unhide BE⟩
set_option maxRecDepth 20000 in
set_option maxHeartbeats 3000000 in
theorem specPilotTick_off {V H R O : Int} (v g t r a b o : Int) (d : Int) (w : World) (hk : apOk ⟨v, 1, g, t, r, a, b, o, true⟩ = true) (hi : inB d (-100) 100 = true) (hE : vtT v g t r = (V, H, R)) (hO : offR o d = O) (hd : 50 < (O.natAbs : Int)) :
    Calls Try.prog 17 #[.agg #[.int .i64 v, .int .i64 1, .int .i64 g, .int .i64 t, .int .i64 r, .int .i64 a, .int .i64 b, .int .i64 o, .bool true], .int .i64 d] w fun e w' => e = .returned (.tuple #[.agg #[.int .i64 V, .int .i64 1, .int .i64 H, .int .i64 t, .int .i64 R, .int .i64 (turnR a b), .int .i64 b, .int .i64 O, .bool true], .bool true]) ∧ Below w.heap.size w w' := by
  obtain ⟨fv, fl, fg, ft, fr, fa, fb, fo⟩ := apOk_facts hk
  have fd := in_facts hi
  have fO : -10000 ≤ O ∧ O ≤ 10000 := by rw [← hO]; unfold offR; omega
  have HO := hide hO
  clear hO
  have HE := hide hE
  clear hE
  go_enter Try.func17, Try.ntmps17
  go_wp2_with (first | (go_at_call 11; refine (specPilotOk_is _ _ _ _ _ _ _ _ _ _ hk).mono ?_; rintro e w1 ⟨rfl, hw⟩; subst w1) | (go_at_call 31; refine (l1In_is _ _ _ _ hi).mono ?_; rintro e w' ⟨rfl, hw⟩; subst w') | ((with_reducible show Calls _ 44 _ _ _); fail))
  go_at_call 44
  refine (l10Vert_is _ _ _ _ _ _ _ _ _ _ fv fg ft fr (unhide HE)).mono ?_
  rintro e w3 ⟨rfl, b3⟩
  have B0 : Hid (Blk w3 w.heap.size [.int .i64 v, .int .i64 1, .int .i64 g, .int .i64 t, .int .i64 r, .int .i64 a, .int .i64 b, .int .i64 o, .bool true]) := hide (blkAt3_0.below b3)
  have B1 : Hid (Blk w3 (w.heap.size + 1) [.int .i64 0, .int .i64 0, .int .i64 0, .int .i64 0, .int .i64 0, .int .i64 0, .int .i64 0, .int .i64 0, .bool false]) := hide (blkAt3_1.below b3)
  have BB : Hid (Below w.heap.size w w3) := hide ((bel3 _ _ _).trans (b3.mono (by simp; omega)))
  clear b3

  go_wp2_with (first
    | ((with_reducible show wpList _ _ _ (⟨none, .store 28 _ _, _, _, _, none⟩ :: _) _ _); refine at_storeAgg (us := [.int .i64 v, .int .i64 1, .int .i64 g, .int .i64 t, .int .i64 r, .int .i64 a, .int .i64 b, .int .i64 o, .bool true]) (vs := [.int .i64 V, .int .i64 1, .int .i64 H, .int .i64 t, .int .i64 R, .int .i64 a, .int .i64 b, .int .i64 o, .bool true]) Try.sizeOf28 rfl rfl (unhide B0) rfl (by simp [Value.oneCell']) ?_; intro U k0 gg; have BU : Hid (Below w.heap.size w U) := hide ((unhide BB).grown gg (unhide BB).size (fun q hq => by cases hq; simp)); have D1 : Hid (Blk U (w.heap.size + 1) [.int .i64 0, .int .i64 0, .int .i64 0, .int .i64 0, .int .i64 0, .int .i64 0, .int .i64 0, .int .i64 0, .bool false]) := hide ((unhide B1).apart gg (by simp)); have c1 : U.cell? ⟨w.heap.size, 1, none⟩ = some (.int .i64 1) := k0.c 1 (by simp); have y1 : U.frozen? ⟨w.heap.size, 1, none⟩ = false := k0.f 1 (by simp); have c5 : U.cell? ⟨w.heap.size, 5, none⟩ = some (.int .i64 a) := k0.c 5 (by simp); have y5 : U.frozen? ⟨w.heap.size, 5, none⟩ = false := k0.f 5 (by simp); have c6 : U.cell? ⟨w.heap.size, 6, none⟩ = some (.int .i64 b) := k0.c 6 (by simp); have y6 : U.frozen? ⟨w.heap.size, 6, none⟩ = false := k0.f 6 (by simp); have c7 : U.cell? ⟨w.heap.size, 7, none⟩ = some (.int .i64 o) := k0.c 7 (by simp); have y7 : U.frozen? ⟨w.heap.size, 7, none⟩ = false := k0.f 7 (by simp); have c8 : U.cell? ⟨w.heap.size, 8, none⟩ = some (.bool true) := k0.c 8 (by simp); have y8 : U.frozen? ⟨w.heap.size, 8, none⟩ = false := k0.f 8 (by simp); have D0 := hide k0; clear k0 gg)
    | (go_at_call 32; refine (l1Min_eq _ _ _).mono ?_; rintro e w' ⟨rfl, hw⟩; subst w') | (go_at_call 33; refine (l1Max_is _ _ _ (unhide HO)).mono ?_; rintro e w' ⟨rfl, hw⟩; subst w') | (go_at_call 45; refine (l10Turn_any _ _ _ (by omega) (by omega)).mono ?_; rintro e w' ⟨rfl, hw⟩; subst w') | (go_at_call 46; refine (absS_any _ _ (by omega)).mono ?_; rintro e w' ⟨rfl, hw⟩; subst w') | (go_at_call 47; refine (l10Toward_is _ _ _ _ (by omega) (by omega) rfl).mono ?_; rintro e w' ⟨rfl, hw⟩; subst w')
    | ((with_reducible show wpList _ _ _ (⟨_, .load 28 _, _, _, _, none⟩ :: _) _ _); refine at_loadAgg (vs := [.int .i64 V, .int .i64 1, .int .i64 H, .int .i64 t, .int .i64 R, .int .i64 (turnR a b), .int .i64 b, .int .i64 O, .bool true]) Try.isAgg28 Try.sizeOf28 rfl (by simpa using (((unhide D0).set 7 (by simp) (.int .i64 O)).set 5 (by simp) (.int .i64 (turnR a b)))) ?_)
    | ((with_reducible show wpList _ _ _ (⟨none, .store 28 _ _, _, _, _, none⟩ :: _) _ _); refine at_storeAgg (us := [.int .i64 0, .int .i64 0, .int .i64 0, .int .i64 0, .int .i64 0, .int .i64 0, .int .i64 0, .int .i64 0, .bool false]) (vs := [.int .i64 V, .int .i64 1, .int .i64 H, .int .i64 t, .int .i64 R, .int .i64 (turnR a b), .int .i64 b, .int .i64 O, .bool true]) Try.sizeOf28 rfl rfl ((((unhide D1).other (by simp) _).other (by simp) _)) rfl (by simp [Value.oneCell']) ?_; intro w2 kk gg))
  have BW : Below w.heap.size w w2 := by
    refine Below.grown ?_ gg ?_ (fun q hq => by cases hq; simp)
    · repeat (first | exact unhide BU | exact unhide BT | refine Below.setCell ?_ (by simp) _)
    · have := (unhide BU).size; first | exact this | (simp [World.setCell]; omega) | (simpa [World.setCell] using this)
  have BE := hide BW
  exact bodyPost_ret (results_cellB (vs := [.int .i64 V, .int .i64 1, .int .i64 H, .int .i64 t, .int .i64 R, .int .i64 (turnR a b), .int .i64 b, .int .i64 O, .bool true]) rfl Try.isAgg28 Try.sizeOf28 rfl kk rfl) rfl ⟨rfl, unhide BE⟩
set_option maxRecDepth 20000 in
set_option maxHeartbeats 3000000 in
theorem specPilotTick_turn {V H R O : Int} (v g t r a b o : Int) (d : Int) (w : World) (hk : apOk ⟨v, 1, g, t, r, a, b, o, false⟩ = true) (hi : inB d (-100) 100 = true) (hE : vtT v g t r = (V, H, R)) (hO : offR o d = O) :
    Calls Try.prog 17 #[.agg #[.int .i64 v, .int .i64 1, .int .i64 g, .int .i64 t, .int .i64 r, .int .i64 a, .int .i64 b, .int .i64 o, .bool false], .int .i64 d] w fun e w' => e = .returned (.tuple #[.agg #[.int .i64 V, .int .i64 1, .int .i64 H, .int .i64 t, .int .i64 R, .int .i64 (turnR a b), .int .i64 b, .int .i64 O, .bool false], .bool true]) ∧ Below w.heap.size w w' := by
  obtain ⟨fv, fl, fg, ft, fr, fa, fb, fo⟩ := apOk_facts hk
  have fd := in_facts hi
  have fO : -10000 ≤ O ∧ O ≤ 10000 := by rw [← hO]; unfold offR; omega
  have HO := hide hO
  clear hO
  have HE := hide hE
  clear hE
  go_enter Try.func17, Try.ntmps17
  go_wp2_with (first | (go_at_call 11; refine (specPilotOk_is _ _ _ _ _ _ _ _ _ _ hk).mono ?_; rintro e w1 ⟨rfl, hw⟩; subst w1) | (go_at_call 31; refine (l1In_is _ _ _ _ hi).mono ?_; rintro e w' ⟨rfl, hw⟩; subst w') | ((with_reducible show Calls _ 44 _ _ _); fail))
  go_at_call 44
  refine (l10Vert_is _ _ _ _ _ _ _ _ _ _ fv fg ft fr (unhide HE)).mono ?_
  rintro e w3 ⟨rfl, b3⟩
  have B0 : Hid (Blk w3 w.heap.size [.int .i64 v, .int .i64 1, .int .i64 g, .int .i64 t, .int .i64 r, .int .i64 a, .int .i64 b, .int .i64 o, .bool false]) := hide (blkAt3_0.below b3)
  have B1 : Hid (Blk w3 (w.heap.size + 1) [.int .i64 0, .int .i64 0, .int .i64 0, .int .i64 0, .int .i64 0, .int .i64 0, .int .i64 0, .int .i64 0, .bool false]) := hide (blkAt3_1.below b3)
  have BB : Hid (Below w.heap.size w w3) := hide ((bel3 _ _ _).trans (b3.mono (by simp; omega)))
  clear b3

  go_wp2_with (first
    | ((with_reducible show wpList _ _ _ (⟨none, .store 28 _ _, _, _, _, none⟩ :: _) _ _); refine at_storeAgg (us := [.int .i64 v, .int .i64 1, .int .i64 g, .int .i64 t, .int .i64 r, .int .i64 a, .int .i64 b, .int .i64 o, .bool false]) (vs := [.int .i64 V, .int .i64 1, .int .i64 H, .int .i64 t, .int .i64 R, .int .i64 a, .int .i64 b, .int .i64 o, .bool false]) Try.sizeOf28 rfl rfl (unhide B0) rfl (by simp [Value.oneCell']) ?_; intro U k0 gg; have BU : Hid (Below w.heap.size w U) := hide ((unhide BB).grown gg (unhide BB).size (fun q hq => by cases hq; simp)); have D1 : Hid (Blk U (w.heap.size + 1) [.int .i64 0, .int .i64 0, .int .i64 0, .int .i64 0, .int .i64 0, .int .i64 0, .int .i64 0, .int .i64 0, .bool false]) := hide ((unhide B1).apart gg (by simp)); have c1 : U.cell? ⟨w.heap.size, 1, none⟩ = some (.int .i64 1) := k0.c 1 (by simp); have y1 : U.frozen? ⟨w.heap.size, 1, none⟩ = false := k0.f 1 (by simp); have c5 : U.cell? ⟨w.heap.size, 5, none⟩ = some (.int .i64 a) := k0.c 5 (by simp); have y5 : U.frozen? ⟨w.heap.size, 5, none⟩ = false := k0.f 5 (by simp); have c6 : U.cell? ⟨w.heap.size, 6, none⟩ = some (.int .i64 b) := k0.c 6 (by simp); have y6 : U.frozen? ⟨w.heap.size, 6, none⟩ = false := k0.f 6 (by simp); have c7 : U.cell? ⟨w.heap.size, 7, none⟩ = some (.int .i64 o) := k0.c 7 (by simp); have y7 : U.frozen? ⟨w.heap.size, 7, none⟩ = false := k0.f 7 (by simp); have c8 : U.cell? ⟨w.heap.size, 8, none⟩ = some (.bool false) := k0.c 8 (by simp); have y8 : U.frozen? ⟨w.heap.size, 8, none⟩ = false := k0.f 8 (by simp); have D0 := hide k0; clear k0 gg)
    | (go_at_call 32; refine (l1Min_eq _ _ _).mono ?_; rintro e w' ⟨rfl, hw⟩; subst w') | (go_at_call 33; refine (l1Max_is _ _ _ (unhide HO)).mono ?_; rintro e w' ⟨rfl, hw⟩; subst w') | (go_at_call 45; refine (l10Turn_any _ _ _ (by omega) (by omega)).mono ?_; rintro e w' ⟨rfl, hw⟩; subst w') | (go_at_call 46; refine (absS_any _ _ (by omega)).mono ?_; rintro e w' ⟨rfl, hw⟩; subst w') | (go_at_call 47; refine (l10Toward_is _ _ _ _ (by omega) (by omega) rfl).mono ?_; rintro e w' ⟨rfl, hw⟩; subst w')
    | ((with_reducible show wpList _ _ _ (⟨_, .load 28 _, _, _, _, none⟩ :: _) _ _); refine at_loadAgg (vs := [.int .i64 V, .int .i64 1, .int .i64 H, .int .i64 t, .int .i64 R, .int .i64 (turnR a b), .int .i64 b, .int .i64 O, .bool false]) Try.isAgg28 Try.sizeOf28 rfl (by simpa using (((unhide D0).set 7 (by simp) (.int .i64 O)).set 5 (by simp) (.int .i64 (turnR a b)))) ?_)
    | ((with_reducible show wpList _ _ _ (⟨none, .store 28 _ _, _, _, _, none⟩ :: _) _ _); refine at_storeAgg (us := [.int .i64 0, .int .i64 0, .int .i64 0, .int .i64 0, .int .i64 0, .int .i64 0, .int .i64 0, .int .i64 0, .bool false]) (vs := [.int .i64 V, .int .i64 1, .int .i64 H, .int .i64 t, .int .i64 R, .int .i64 (turnR a b), .int .i64 b, .int .i64 O, .bool false]) Try.sizeOf28 rfl rfl ((((unhide D1).other (by simp) _).other (by simp) _)) rfl (by simp [Value.oneCell']) ?_; intro w2 kk gg))
  have BW : Below w.heap.size w w2 := by
    refine Below.grown ?_ gg ?_ (fun q hq => by cases hq; simp)
    · repeat (first | exact unhide BU | exact unhide BT | refine Below.setCell ?_ (by simp) _)
    · have := (unhide BU).size; first | exact this | (simp [World.setCell]; omega) | (simpa [World.setCell] using this)
  have BE := hide BW
  exact bodyPost_ret (results_cellB (vs := [.int .i64 V, .int .i64 1, .int .i64 H, .int .i64 t, .int .i64 R, .int .i64 (turnR a b), .int .i64 b, .int .i64 O, .bool false]) rfl Try.isAgg28 Try.sizeOf28 rfl kk rfl) rfl ⟨rfl, unhide BE⟩
set_option maxRecDepth 20000 in
set_option maxHeartbeats 3000000 in
theorem specPilotTick_on {V H R O : Int} (v g t r a b o : Int) (m : Bool) (d : Int) (w : World) (hk : apOk ⟨v, 3, g, t, r, a, b, o, m⟩ = true) (hi : inB d (-100) 100 = true) (hE : vtT v g t r = (V, H, R)) (hO : offR o d = O) (hd : tow O 0 10 = 0) :
    Calls Try.prog 17 #[.agg #[.int .i64 v, .int .i64 3, .int .i64 g, .int .i64 t, .int .i64 r, .int .i64 a, .int .i64 b, .int .i64 o, .bool m], .int .i64 d] w fun e w' => e = .returned (.tuple #[.agg #[.int .i64 V, .int .i64 2, .int .i64 H, .int .i64 t, .int .i64 R, .int .i64 a, .int .i64 b, .int .i64 0, .bool m], .bool true]) ∧ Below w.heap.size w w' := by
  obtain ⟨fv, fl, fg, ft, fr, fa, fb, fo⟩ := apOk_facts hk
  have fd := in_facts hi
  have fO : -10000 ≤ O ∧ O ≤ 10000 := by rw [← hO]; unfold offR; omega
  have HO := hide hO
  clear hO
  have HE := hide hE
  clear hE
  go_enter Try.func17, Try.ntmps17
  go_wp2_with (first | (go_at_call 11; refine (specPilotOk_is _ _ _ _ _ _ _ _ _ _ hk).mono ?_; rintro e w1 ⟨rfl, hw⟩; subst w1) | (go_at_call 31; refine (l1In_is _ _ _ _ hi).mono ?_; rintro e w' ⟨rfl, hw⟩; subst w') | ((with_reducible show Calls _ 44 _ _ _); fail))
  go_at_call 44
  refine (l10Vert_is _ _ _ _ _ _ _ _ _ _ fv fg ft fr (unhide HE)).mono ?_
  rintro e w3 ⟨rfl, b3⟩
  have B0 : Hid (Blk w3 w.heap.size [.int .i64 v, .int .i64 3, .int .i64 g, .int .i64 t, .int .i64 r, .int .i64 a, .int .i64 b, .int .i64 o, .bool m]) := hide (blkAt3_0.below b3)
  have B1 : Hid (Blk w3 (w.heap.size + 1) [.int .i64 0, .int .i64 0, .int .i64 0, .int .i64 0, .int .i64 0, .int .i64 0, .int .i64 0, .int .i64 0, .bool false]) := hide (blkAt3_1.below b3)
  have BB : Hid (Below w.heap.size w w3) := hide ((bel3 _ _ _).trans (b3.mono (by simp; omega)))
  clear b3

  go_wp2_with (first
    | ((with_reducible show wpList _ _ _ (⟨none, .store 28 _ _, _, _, _, none⟩ :: _) _ _); refine at_storeAgg (us := [.int .i64 v, .int .i64 3, .int .i64 g, .int .i64 t, .int .i64 r, .int .i64 a, .int .i64 b, .int .i64 o, .bool m]) (vs := [.int .i64 V, .int .i64 3, .int .i64 H, .int .i64 t, .int .i64 R, .int .i64 a, .int .i64 b, .int .i64 o, .bool m]) Try.sizeOf28 rfl rfl (unhide B0) rfl (by simp [Value.oneCell']) ?_; intro U k0 gg; have BU : Hid (Below w.heap.size w U) := hide ((unhide BB).grown gg (unhide BB).size (fun q hq => by cases hq; simp)); have D1 : Hid (Blk U (w.heap.size + 1) [.int .i64 0, .int .i64 0, .int .i64 0, .int .i64 0, .int .i64 0, .int .i64 0, .int .i64 0, .int .i64 0, .bool false]) := hide ((unhide B1).apart gg (by simp)); have c1 : U.cell? ⟨w.heap.size, 1, none⟩ = some (.int .i64 3) := k0.c 1 (by simp); have y1 : U.frozen? ⟨w.heap.size, 1, none⟩ = false := k0.f 1 (by simp); have c5 : U.cell? ⟨w.heap.size, 5, none⟩ = some (.int .i64 a) := k0.c 5 (by simp); have y5 : U.frozen? ⟨w.heap.size, 5, none⟩ = false := k0.f 5 (by simp); have c6 : U.cell? ⟨w.heap.size, 6, none⟩ = some (.int .i64 b) := k0.c 6 (by simp); have y6 : U.frozen? ⟨w.heap.size, 6, none⟩ = false := k0.f 6 (by simp); have c7 : U.cell? ⟨w.heap.size, 7, none⟩ = some (.int .i64 o) := k0.c 7 (by simp); have y7 : U.frozen? ⟨w.heap.size, 7, none⟩ = false := k0.f 7 (by simp); have c8 : U.cell? ⟨w.heap.size, 8, none⟩ = some (.bool m) := k0.c 8 (by simp); have y8 : U.frozen? ⟨w.heap.size, 8, none⟩ = false := k0.f 8 (by simp); have D0 := hide k0; clear k0 gg)
    | (go_at_call 32; refine (l1Min_eq _ _ _).mono ?_; rintro e w' ⟨rfl, hw⟩; subst w') | (go_at_call 33; refine (l1Max_is _ _ _ (unhide HO)).mono ?_; rintro e w' ⟨rfl, hw⟩; subst w') | (go_at_call 45; refine (l10Turn_any _ _ _ (by omega) (by omega)).mono ?_; rintro e w' ⟨rfl, hw⟩; subst w') | (go_at_call 46; refine (absS_any _ _ (by omega)).mono ?_; rintro e w' ⟨rfl, hw⟩; subst w') | (go_at_call 47; refine (l10Toward_is _ _ _ _ (by omega) (by omega) rfl).mono ?_; rintro e w' ⟨rfl, hw⟩; subst w')
    | ((with_reducible show wpList _ _ _ (⟨_, .load 28 _, _, _, _, none⟩ :: _) _ _); refine at_loadAgg (vs := [.int .i64 V, .int .i64 2, .int .i64 H, .int .i64 t, .int .i64 R, .int .i64 a, .int .i64 b, .int .i64 0, .bool m]) Try.isAgg28 Try.sizeOf28 rfl (by simpa using ((((unhide D0).set 7 (by simp) (.int .i64 O)).set 7 (by simp) (.int .i64 0)).set 1 (by simp) (.int .i64 2))) ?_)
    | ((with_reducible show wpList _ _ _ (⟨none, .store 28 _ _, _, _, _, none⟩ :: _) _ _); refine at_storeAgg (us := [.int .i64 0, .int .i64 0, .int .i64 0, .int .i64 0, .int .i64 0, .int .i64 0, .int .i64 0, .int .i64 0, .bool false]) (vs := [.int .i64 V, .int .i64 2, .int .i64 H, .int .i64 t, .int .i64 R, .int .i64 a, .int .i64 b, .int .i64 0, .bool m]) Try.sizeOf28 rfl rfl (((((unhide D1).other (by simp) _).other (by simp) _).other (by simp) _)) rfl (by simp [Value.oneCell']) ?_; intro w2 kk gg))
  have BW : Below w.heap.size w w2 := by
    refine Below.grown ?_ gg ?_ (fun q hq => by cases hq; simp)
    · repeat (first | exact unhide BU | exact unhide BT | refine Below.setCell ?_ (by simp) _)
    · have := (unhide BU).size; first | exact this | (simp [World.setCell]; omega) | (simpa [World.setCell] using this)
  have BE := hide BW
  exact bodyPost_ret (results_cellB (vs := [.int .i64 V, .int .i64 2, .int .i64 H, .int .i64 t, .int .i64 R, .int .i64 a, .int .i64 b, .int .i64 0, .bool m]) rfl Try.isAgg28 Try.sizeOf28 rfl kk rfl) rfl ⟨rfl, unhide BE⟩
set_option maxRecDepth 20000 in
set_option maxHeartbeats 3000000 in
theorem specPilotTick_nearer {V H R O : Int} (v g t r a b o : Int) (m : Bool) (d : Int) (w : World) (hk : apOk ⟨v, 3, g, t, r, a, b, o, m⟩ = true) (hi : inB d (-100) 100 = true) (hE : vtT v g t r = (V, H, R)) (hO : offR o d = O) (hd : ¬ tow O 0 10 = 0) :
    Calls Try.prog 17 #[.agg #[.int .i64 v, .int .i64 3, .int .i64 g, .int .i64 t, .int .i64 r, .int .i64 a, .int .i64 b, .int .i64 o, .bool m], .int .i64 d] w fun e w' => e = .returned (.tuple #[.agg #[.int .i64 V, .int .i64 3, .int .i64 H, .int .i64 t, .int .i64 R, .int .i64 a, .int .i64 b, .int .i64 (tow O 0 10), .bool m], .bool true]) ∧ Below w.heap.size w w' := by
  obtain ⟨fv, fl, fg, ft, fr, fa, fb, fo⟩ := apOk_facts hk
  have fd := in_facts hi
  have fO : -10000 ≤ O ∧ O ≤ 10000 := by rw [← hO]; unfold offR; omega
  have HO := hide hO
  clear hO
  have HE := hide hE
  clear hE
  go_enter Try.func17, Try.ntmps17
  go_wp2_with (first | (go_at_call 11; refine (specPilotOk_is _ _ _ _ _ _ _ _ _ _ hk).mono ?_; rintro e w1 ⟨rfl, hw⟩; subst w1) | (go_at_call 31; refine (l1In_is _ _ _ _ hi).mono ?_; rintro e w' ⟨rfl, hw⟩; subst w') | ((with_reducible show Calls _ 44 _ _ _); fail))
  go_at_call 44
  refine (l10Vert_is _ _ _ _ _ _ _ _ _ _ fv fg ft fr (unhide HE)).mono ?_
  rintro e w3 ⟨rfl, b3⟩
  have B0 : Hid (Blk w3 w.heap.size [.int .i64 v, .int .i64 3, .int .i64 g, .int .i64 t, .int .i64 r, .int .i64 a, .int .i64 b, .int .i64 o, .bool m]) := hide (blkAt3_0.below b3)
  have B1 : Hid (Blk w3 (w.heap.size + 1) [.int .i64 0, .int .i64 0, .int .i64 0, .int .i64 0, .int .i64 0, .int .i64 0, .int .i64 0, .int .i64 0, .bool false]) := hide (blkAt3_1.below b3)
  have BB : Hid (Below w.heap.size w w3) := hide ((bel3 _ _ _).trans (b3.mono (by simp; omega)))
  clear b3

  go_wp2_with (first
    | ((with_reducible show wpList _ _ _ (⟨none, .store 28 _ _, _, _, _, none⟩ :: _) _ _); refine at_storeAgg (us := [.int .i64 v, .int .i64 3, .int .i64 g, .int .i64 t, .int .i64 r, .int .i64 a, .int .i64 b, .int .i64 o, .bool m]) (vs := [.int .i64 V, .int .i64 3, .int .i64 H, .int .i64 t, .int .i64 R, .int .i64 a, .int .i64 b, .int .i64 o, .bool m]) Try.sizeOf28 rfl rfl (unhide B0) rfl (by simp [Value.oneCell']) ?_; intro U k0 gg; have BU : Hid (Below w.heap.size w U) := hide ((unhide BB).grown gg (unhide BB).size (fun q hq => by cases hq; simp)); have D1 : Hid (Blk U (w.heap.size + 1) [.int .i64 0, .int .i64 0, .int .i64 0, .int .i64 0, .int .i64 0, .int .i64 0, .int .i64 0, .int .i64 0, .bool false]) := hide ((unhide B1).apart gg (by simp)); have c1 : U.cell? ⟨w.heap.size, 1, none⟩ = some (.int .i64 3) := k0.c 1 (by simp); have y1 : U.frozen? ⟨w.heap.size, 1, none⟩ = false := k0.f 1 (by simp); have c5 : U.cell? ⟨w.heap.size, 5, none⟩ = some (.int .i64 a) := k0.c 5 (by simp); have y5 : U.frozen? ⟨w.heap.size, 5, none⟩ = false := k0.f 5 (by simp); have c6 : U.cell? ⟨w.heap.size, 6, none⟩ = some (.int .i64 b) := k0.c 6 (by simp); have y6 : U.frozen? ⟨w.heap.size, 6, none⟩ = false := k0.f 6 (by simp); have c7 : U.cell? ⟨w.heap.size, 7, none⟩ = some (.int .i64 o) := k0.c 7 (by simp); have y7 : U.frozen? ⟨w.heap.size, 7, none⟩ = false := k0.f 7 (by simp); have c8 : U.cell? ⟨w.heap.size, 8, none⟩ = some (.bool m) := k0.c 8 (by simp); have y8 : U.frozen? ⟨w.heap.size, 8, none⟩ = false := k0.f 8 (by simp); have D0 := hide k0; clear k0 gg)
    | (go_at_call 32; refine (l1Min_eq _ _ _).mono ?_; rintro e w' ⟨rfl, hw⟩; subst w') | (go_at_call 33; refine (l1Max_is _ _ _ (unhide HO)).mono ?_; rintro e w' ⟨rfl, hw⟩; subst w') | (go_at_call 45; refine (l10Turn_any _ _ _ (by omega) (by omega)).mono ?_; rintro e w' ⟨rfl, hw⟩; subst w') | (go_at_call 46; refine (absS_any _ _ (by omega)).mono ?_; rintro e w' ⟨rfl, hw⟩; subst w') | (go_at_call 47; refine (l10Toward_is _ _ _ _ (by omega) (by omega) rfl).mono ?_; rintro e w' ⟨rfl, hw⟩; subst w')
    | ((with_reducible show wpList _ _ _ (⟨_, .load 28 _, _, _, _, none⟩ :: _) _ _); refine at_loadAgg (vs := [.int .i64 V, .int .i64 3, .int .i64 H, .int .i64 t, .int .i64 R, .int .i64 a, .int .i64 b, .int .i64 (tow O 0 10), .bool m]) Try.isAgg28 Try.sizeOf28 rfl (by simpa using (((unhide D0).set 7 (by simp) (.int .i64 O)).set 7 (by simp) (.int .i64 (tow O 0 10)))) ?_)
    | ((with_reducible show wpList _ _ _ (⟨none, .store 28 _ _, _, _, _, none⟩ :: _) _ _); refine at_storeAgg (us := [.int .i64 0, .int .i64 0, .int .i64 0, .int .i64 0, .int .i64 0, .int .i64 0, .int .i64 0, .int .i64 0, .bool false]) (vs := [.int .i64 V, .int .i64 3, .int .i64 H, .int .i64 t, .int .i64 R, .int .i64 a, .int .i64 b, .int .i64 (tow O 0 10), .bool m]) Try.sizeOf28 rfl rfl ((((unhide D1).other (by simp) _).other (by simp) _)) rfl (by simp [Value.oneCell']) ?_; intro w2 kk gg))
  have BW : Below w.heap.size w w2 := by
    refine Below.grown ?_ gg ?_ (fun q hq => by cases hq; simp)
    · repeat (first | exact unhide BU | exact unhide BT | refine Below.setCell ?_ (by simp) _)
    · have := (unhide BU).size; first | exact this | (simp [World.setCell]; omega) | (simpa [World.setCell] using this)
  have BE := hide BW
  exact bodyPost_ret (results_cellB (vs := [.int .i64 V, .int .i64 3, .int .i64 H, .int .i64 t, .int .i64 R, .int .i64 a, .int .i64 b, .int .i64 (tow O 0 10), .bool m]) rfl Try.isAgg28 Try.sizeOf28 rfl kk rfl) rfl ⟨rfl, unhide BE⟩
set_option maxRecDepth 20000 in
set_option maxHeartbeats 3000000 in
theorem specPilotTick_held {V H R O : Int} (v g t r a b o : Int) (m : Bool) (d : Int) (w : World) (hk : apOk ⟨v, 2, g, t, r, a, b, o, m⟩ = true) (hi : inB d (-100) 100 = true) (hE : vtT v g t r = (V, H, R)) (hO : offR o d = O) (hd : (O.natAbs : Int) ≤ 20) :
    Calls Try.prog 17 #[.agg #[.int .i64 v, .int .i64 2, .int .i64 g, .int .i64 t, .int .i64 r, .int .i64 a, .int .i64 b, .int .i64 o, .bool m], .int .i64 d] w fun e w' => e = .returned (.tuple #[.agg #[.int .i64 V, .int .i64 2, .int .i64 H, .int .i64 t, .int .i64 R, .int .i64 a, .int .i64 b, .int .i64 0, .bool m], .bool true]) ∧ Below w.heap.size w w' := by
  obtain ⟨fv, fl, fg, ft, fr, fa, fb, fo⟩ := apOk_facts hk
  have fd := in_facts hi
  have fO : -10000 ≤ O ∧ O ≤ 10000 := by rw [← hO]; unfold offR; omega
  have HO := hide hO
  clear hO
  have HE := hide hE
  clear hE
  go_enter Try.func17, Try.ntmps17
  go_wp2_with (first | (go_at_call 11; refine (specPilotOk_is _ _ _ _ _ _ _ _ _ _ hk).mono ?_; rintro e w1 ⟨rfl, hw⟩; subst w1) | (go_at_call 31; refine (l1In_is _ _ _ _ hi).mono ?_; rintro e w' ⟨rfl, hw⟩; subst w') | ((with_reducible show Calls _ 44 _ _ _); fail))
  go_at_call 44
  refine (l10Vert_is _ _ _ _ _ _ _ _ _ _ fv fg ft fr (unhide HE)).mono ?_
  rintro e w3 ⟨rfl, b3⟩
  have B0 : Hid (Blk w3 w.heap.size [.int .i64 v, .int .i64 2, .int .i64 g, .int .i64 t, .int .i64 r, .int .i64 a, .int .i64 b, .int .i64 o, .bool m]) := hide (blkAt3_0.below b3)
  have B1 : Hid (Blk w3 (w.heap.size + 1) [.int .i64 0, .int .i64 0, .int .i64 0, .int .i64 0, .int .i64 0, .int .i64 0, .int .i64 0, .int .i64 0, .bool false]) := hide (blkAt3_1.below b3)
  have BB : Hid (Below w.heap.size w w3) := hide ((bel3 _ _ _).trans (b3.mono (by simp; omega)))
  clear b3

  go_wp2_with (first
    | ((with_reducible show wpList _ _ _ (⟨none, .store 28 _ _, _, _, _, none⟩ :: _) _ _); refine at_storeAgg (us := [.int .i64 v, .int .i64 2, .int .i64 g, .int .i64 t, .int .i64 r, .int .i64 a, .int .i64 b, .int .i64 o, .bool m]) (vs := [.int .i64 V, .int .i64 2, .int .i64 H, .int .i64 t, .int .i64 R, .int .i64 a, .int .i64 b, .int .i64 o, .bool m]) Try.sizeOf28 rfl rfl (unhide B0) rfl (by simp [Value.oneCell']) ?_; intro U k0 gg; have BU : Hid (Below w.heap.size w U) := hide ((unhide BB).grown gg (unhide BB).size (fun q hq => by cases hq; simp)); have D1 : Hid (Blk U (w.heap.size + 1) [.int .i64 0, .int .i64 0, .int .i64 0, .int .i64 0, .int .i64 0, .int .i64 0, .int .i64 0, .int .i64 0, .bool false]) := hide ((unhide B1).apart gg (by simp)); have c1 : U.cell? ⟨w.heap.size, 1, none⟩ = some (.int .i64 2) := k0.c 1 (by simp); have y1 : U.frozen? ⟨w.heap.size, 1, none⟩ = false := k0.f 1 (by simp); have c5 : U.cell? ⟨w.heap.size, 5, none⟩ = some (.int .i64 a) := k0.c 5 (by simp); have y5 : U.frozen? ⟨w.heap.size, 5, none⟩ = false := k0.f 5 (by simp); have c6 : U.cell? ⟨w.heap.size, 6, none⟩ = some (.int .i64 b) := k0.c 6 (by simp); have y6 : U.frozen? ⟨w.heap.size, 6, none⟩ = false := k0.f 6 (by simp); have c7 : U.cell? ⟨w.heap.size, 7, none⟩ = some (.int .i64 o) := k0.c 7 (by simp); have y7 : U.frozen? ⟨w.heap.size, 7, none⟩ = false := k0.f 7 (by simp); have c8 : U.cell? ⟨w.heap.size, 8, none⟩ = some (.bool m) := k0.c 8 (by simp); have y8 : U.frozen? ⟨w.heap.size, 8, none⟩ = false := k0.f 8 (by simp); have D0 := hide k0; clear k0 gg)
    | (go_at_call 32; refine (l1Min_eq _ _ _).mono ?_; rintro e w' ⟨rfl, hw⟩; subst w') | (go_at_call 33; refine (l1Max_is _ _ _ (unhide HO)).mono ?_; rintro e w' ⟨rfl, hw⟩; subst w') | (go_at_call 45; refine (l10Turn_any _ _ _ (by omega) (by omega)).mono ?_; rintro e w' ⟨rfl, hw⟩; subst w') | (go_at_call 46; refine (absS_any _ _ (by omega)).mono ?_; rintro e w' ⟨rfl, hw⟩; subst w') | (go_at_call 47; refine (l10Toward_is _ _ _ _ (by omega) (by omega) rfl).mono ?_; rintro e w' ⟨rfl, hw⟩; subst w')
    | ((with_reducible show wpList _ _ _ (⟨_, .load 28 _, _, _, _, none⟩ :: _) _ _); refine at_loadAgg (vs := [.int .i64 V, .int .i64 2, .int .i64 H, .int .i64 t, .int .i64 R, .int .i64 a, .int .i64 b, .int .i64 0, .bool m]) Try.isAgg28 Try.sizeOf28 rfl (by simpa using (((unhide D0).set 7 (by simp) (.int .i64 O)).set 7 (by simp) (.int .i64 0))) ?_)
    | ((with_reducible show wpList _ _ _ (⟨none, .store 28 _ _, _, _, _, none⟩ :: _) _ _); refine at_storeAgg (us := [.int .i64 0, .int .i64 0, .int .i64 0, .int .i64 0, .int .i64 0, .int .i64 0, .int .i64 0, .int .i64 0, .bool false]) (vs := [.int .i64 V, .int .i64 2, .int .i64 H, .int .i64 t, .int .i64 R, .int .i64 a, .int .i64 b, .int .i64 0, .bool m]) Try.sizeOf28 rfl rfl ((((unhide D1).other (by simp) _).other (by simp) _)) rfl (by simp [Value.oneCell']) ?_; intro w2 kk gg))
  have BW : Below w.heap.size w w2 := by
    refine Below.grown ?_ gg ?_ (fun q hq => by cases hq; simp)
    · repeat (first | exact unhide BU | exact unhide BT | refine Below.setCell ?_ (by simp) _)
    · have := (unhide BU).size; first | exact this | (simp [World.setCell]; omega) | (simpa [World.setCell] using this)
  have BE := hide BW
  exact bodyPost_ret (results_cellB (vs := [.int .i64 V, .int .i64 2, .int .i64 H, .int .i64 t, .int .i64 R, .int .i64 a, .int .i64 b, .int .i64 0, .bool m]) rfl Try.isAgg28 Try.sizeOf28 rfl kk rfl) rfl ⟨rfl, unhide BE⟩
set_option maxRecDepth 20000 in
set_option maxHeartbeats 3000000 in
theorem specPilotTick_lost {V H R O : Int} (v g t r a b o : Int) (m : Bool) (d : Int) (w : World) (hk : apOk ⟨v, 2, g, t, r, a, b, o, m⟩ = true) (hi : inB d (-100) 100 = true) (hE : vtT v g t r = (V, H, R)) (hO : offR o d = O) (hd : 20 < (O.natAbs : Int)) :
    Calls Try.prog 17 #[.agg #[.int .i64 v, .int .i64 2, .int .i64 g, .int .i64 t, .int .i64 r, .int .i64 a, .int .i64 b, .int .i64 o, .bool m], .int .i64 d] w fun e w' => e = .returned (.tuple #[.agg #[.int .i64 V, .int .i64 3, .int .i64 H, .int .i64 t, .int .i64 R, .int .i64 a, .int .i64 b, .int .i64 O, .bool m], .bool true]) ∧ Below w.heap.size w w' := by
  obtain ⟨fv, fl, fg, ft, fr, fa, fb, fo⟩ := apOk_facts hk
  have fd := in_facts hi
  have fO : -10000 ≤ O ∧ O ≤ 10000 := by rw [← hO]; unfold offR; omega
  have HO := hide hO
  clear hO
  have HE := hide hE
  clear hE
  go_enter Try.func17, Try.ntmps17
  go_wp2_with (first | (go_at_call 11; refine (specPilotOk_is _ _ _ _ _ _ _ _ _ _ hk).mono ?_; rintro e w1 ⟨rfl, hw⟩; subst w1) | (go_at_call 31; refine (l1In_is _ _ _ _ hi).mono ?_; rintro e w' ⟨rfl, hw⟩; subst w') | ((with_reducible show Calls _ 44 _ _ _); fail))
  go_at_call 44
  refine (l10Vert_is _ _ _ _ _ _ _ _ _ _ fv fg ft fr (unhide HE)).mono ?_
  rintro e w3 ⟨rfl, b3⟩
  have B0 : Hid (Blk w3 w.heap.size [.int .i64 v, .int .i64 2, .int .i64 g, .int .i64 t, .int .i64 r, .int .i64 a, .int .i64 b, .int .i64 o, .bool m]) := hide (blkAt3_0.below b3)
  have B1 : Hid (Blk w3 (w.heap.size + 1) [.int .i64 0, .int .i64 0, .int .i64 0, .int .i64 0, .int .i64 0, .int .i64 0, .int .i64 0, .int .i64 0, .bool false]) := hide (blkAt3_1.below b3)
  have BB : Hid (Below w.heap.size w w3) := hide ((bel3 _ _ _).trans (b3.mono (by simp; omega)))
  clear b3

  go_wp2_with (first
    | ((with_reducible show wpList _ _ _ (⟨none, .store 28 _ _, _, _, _, none⟩ :: _) _ _); refine at_storeAgg (us := [.int .i64 v, .int .i64 2, .int .i64 g, .int .i64 t, .int .i64 r, .int .i64 a, .int .i64 b, .int .i64 o, .bool m]) (vs := [.int .i64 V, .int .i64 2, .int .i64 H, .int .i64 t, .int .i64 R, .int .i64 a, .int .i64 b, .int .i64 o, .bool m]) Try.sizeOf28 rfl rfl (unhide B0) rfl (by simp [Value.oneCell']) ?_; intro U k0 gg; have BU : Hid (Below w.heap.size w U) := hide ((unhide BB).grown gg (unhide BB).size (fun q hq => by cases hq; simp)); have D1 : Hid (Blk U (w.heap.size + 1) [.int .i64 0, .int .i64 0, .int .i64 0, .int .i64 0, .int .i64 0, .int .i64 0, .int .i64 0, .int .i64 0, .bool false]) := hide ((unhide B1).apart gg (by simp)); have c1 : U.cell? ⟨w.heap.size, 1, none⟩ = some (.int .i64 2) := k0.c 1 (by simp); have y1 : U.frozen? ⟨w.heap.size, 1, none⟩ = false := k0.f 1 (by simp); have c5 : U.cell? ⟨w.heap.size, 5, none⟩ = some (.int .i64 a) := k0.c 5 (by simp); have y5 : U.frozen? ⟨w.heap.size, 5, none⟩ = false := k0.f 5 (by simp); have c6 : U.cell? ⟨w.heap.size, 6, none⟩ = some (.int .i64 b) := k0.c 6 (by simp); have y6 : U.frozen? ⟨w.heap.size, 6, none⟩ = false := k0.f 6 (by simp); have c7 : U.cell? ⟨w.heap.size, 7, none⟩ = some (.int .i64 o) := k0.c 7 (by simp); have y7 : U.frozen? ⟨w.heap.size, 7, none⟩ = false := k0.f 7 (by simp); have c8 : U.cell? ⟨w.heap.size, 8, none⟩ = some (.bool m) := k0.c 8 (by simp); have y8 : U.frozen? ⟨w.heap.size, 8, none⟩ = false := k0.f 8 (by simp); have D0 := hide k0; clear k0 gg)
    | (go_at_call 32; refine (l1Min_eq _ _ _).mono ?_; rintro e w' ⟨rfl, hw⟩; subst w') | (go_at_call 33; refine (l1Max_is _ _ _ (unhide HO)).mono ?_; rintro e w' ⟨rfl, hw⟩; subst w') | (go_at_call 45; refine (l10Turn_any _ _ _ (by omega) (by omega)).mono ?_; rintro e w' ⟨rfl, hw⟩; subst w') | (go_at_call 46; refine (absS_any _ _ (by omega)).mono ?_; rintro e w' ⟨rfl, hw⟩; subst w') | (go_at_call 47; refine (l10Toward_is _ _ _ _ (by omega) (by omega) rfl).mono ?_; rintro e w' ⟨rfl, hw⟩; subst w')
    | ((with_reducible show wpList _ _ _ (⟨_, .load 28 _, _, _, _, none⟩ :: _) _ _); refine at_loadAgg (vs := [.int .i64 V, .int .i64 3, .int .i64 H, .int .i64 t, .int .i64 R, .int .i64 a, .int .i64 b, .int .i64 O, .bool m]) Try.isAgg28 Try.sizeOf28 rfl (by simpa using (((unhide D0).set 7 (by simp) (.int .i64 O)).set 1 (by simp) (.int .i64 3))) ?_)
    | ((with_reducible show wpList _ _ _ (⟨none, .store 28 _ _, _, _, _, none⟩ :: _) _ _); refine at_storeAgg (us := [.int .i64 0, .int .i64 0, .int .i64 0, .int .i64 0, .int .i64 0, .int .i64 0, .int .i64 0, .int .i64 0, .bool false]) (vs := [.int .i64 V, .int .i64 3, .int .i64 H, .int .i64 t, .int .i64 R, .int .i64 a, .int .i64 b, .int .i64 O, .bool m]) Try.sizeOf28 rfl rfl ((((unhide D1).other (by simp) _).other (by simp) _)) rfl (by simp [Value.oneCell']) ?_; intro w2 kk gg))
  have BW : Below w.heap.size w w2 := by
    refine Below.grown ?_ gg ?_ (fun q hq => by cases hq; simp)
    · repeat (first | exact unhide BU | exact unhide BT | refine Below.setCell ?_ (by simp) _)
    · have := (unhide BU).size; first | exact this | (simp [World.setCell]; omega) | (simpa [World.setCell] using this)
  have BE := hide BW
  exact bodyPost_ret (results_cellB (vs := [.int .i64 V, .int .i64 3, .int .i64 H, .int .i64 t, .int .i64 R, .int .i64 a, .int .i64 b, .int .i64 O, .bool m]) rfl Try.isAgg28 Try.sizeOf28 rfl kk rfl) rfl ⟨rfl, unhide BE⟩
theorem specPilotTick_any (v l g t r a b o : Int) (m : Bool) (d : Int) (w : World) :
    Calls Try.prog 17 #[.agg #[.int .i64 v, .int .i64 l, .int .i64 g, .int .i64 t, .int .i64 r, .int .i64 a, .int .i64 b, .int .i64 o, .bool m], .int .i64 d] w fun e w' => e = .returned (.tuple #[.agg #[.int .i64 (tickP ⟨v, l, g, t, r, a, b, o, m⟩ d).a0, .int .i64 (tickP ⟨v, l, g, t, r, a, b, o, m⟩ d).a1, .int .i64 (tickP ⟨v, l, g, t, r, a, b, o, m⟩ d).a2, .int .i64 (tickP ⟨v, l, g, t, r, a, b, o, m⟩ d).a3, .int .i64 (tickP ⟨v, l, g, t, r, a, b, o, m⟩ d).a4, .int .i64 (tickP ⟨v, l, g, t, r, a, b, o, m⟩ d).a5, .int .i64 (tickP ⟨v, l, g, t, r, a, b, o, m⟩ d).a6, .int .i64 (tickP ⟨v, l, g, t, r, a, b, o, m⟩ d).a7, .bool (tickP ⟨v, l, g, t, r, a, b, o, m⟩ d).a8], .bool (okT ⟨v, l, g, t, r, a, b, o, m⟩ d)]) ∧ Below w.heap.size w w' := by
  cases hb : okT ⟨v, l, g, t, r, a, b, o, m⟩ d
  · have hT : tickP ⟨v, l, g, t, r, a, b, o, m⟩ d = ⟨0, 0, 0, 0, 0, 0, 0, 0, false⟩ := by simp [tickP, hb]
    rw [hT]
    exact specPilotTick_no v l g t r a b o m d w hb
  obtain ⟨hk, hi⟩ : apOk ⟨v, l, g, t, r, a, b, o, m⟩ = true ∧ inB d (-100) 100 = true := by simpa [okT] using hb
  obtain ⟨⟨V, H, R⟩, hE⟩ : ∃ x, vtT v g t r = x := ⟨_, rfl⟩
  obtain ⟨⟨L, A, E, M⟩, hL⟩ : ∃ x, ltT l a b (offR o d) m = x := ⟨_, rfl⟩
  have hT : tickP ⟨v, l, g, t, r, a, b, o, m⟩ d = ⟨V, L, H, t, R, A, b, E, M⟩ := by simp [tickP, hb, hE, hL]
  rw [hT]
  clear hT hb
  obtain ⟨fv, fl, fg, ft, fr, fa, fb, fo⟩ := apOk_facts hk
  obtain ⟨O, hO⟩ : ∃ O, offR o d = O := ⟨_, rfl⟩
  rw [hO] at hL
  rcases (by omega : l = 0 ∨ l = 1 ∨ l = 2 ∨ l = 3) with rfl | rfl | rfl | rfl
  · simp [ltT] at hL
    obtain ⟨rfl, rfl, rfl, rfl⟩ := hL
    exact specPilotTick_l0 v g t r a b o m d w hk hi hE hO
  · cases m
    · simp [ltT] at hL
      obtain ⟨rfl, rfl, rfl, rfl⟩ := hL
      exact specPilotTick_turn v g t r a b o d w hk hi hE hO
    · by_cases hd : (O.natAbs : Int) ≤ 50
      · simp [ltT, hd] at hL
        obtain ⟨rfl, rfl, rfl, rfl⟩ := hL
        exact specPilotTick_armed v g t r a b o d w hk hi hE hO hd
      · simp [ltT, hd] at hL
        obtain ⟨rfl, rfl, rfl, rfl⟩ := hL
        exact specPilotTick_off v g t r a b o d w hk hi hE hO (Int.not_le.mp hd)
  · by_cases hd : (O.natAbs : Int) ≤ 20
    · simp [ltT, hd] at hL
      obtain ⟨rfl, rfl, rfl, rfl⟩ := hL
      exact specPilotTick_held v g t r a b o m d w hk hi hE hO hd
    · simp [ltT, hd] at hL
      obtain ⟨rfl, rfl, rfl, rfl⟩ := hL
      exact specPilotTick_lost v g t r a b o m d w hk hi hE hO (Int.not_le.mp hd)
  · by_cases hd : tow O 0 10 = 0
    · simp [ltT, hd] at hL
      obtain ⟨rfl, rfl, rfl, rfl⟩ := hL
      exact specPilotTick_on v g t r a b o m d w hk hi hE hO hd
    · simp [ltT, hd] at hL
      obtain ⟨rfl, rfl, rfl, rfl⟩ := hL
      exact specPilotTick_nearer v g t r a b o m d w hk hi hE hO hd

end Go.Proofs.Ytfahhjgpgccdhas
