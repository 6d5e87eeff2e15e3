/-
  What FnSizes draws: some numbers of the small size, some complex numbers, small whole roots; and the program's Sharper on what Wider has told. No condition.
-/
import Derived.Test.YtomcbbpaajpeiaaSizFact
import Derived.Test.YtomcbbpaajpeiaaFdIs
import Derived.Test.YtomcbbpaajpeiaaLawWider
import Derived.Test.YtomcbbpaajpeiaaCxImpl
import Derived.Test.YtomcbbpaajpeiaaCxSpec
import Derived.Test.YtomcbbpaajpeiaaAppEl
import Derived.Test.YtomcbbpaajpeiaaWhole
import Derived.Deep.RegionLaw
import Derived.Deep.CutRange
namespace Go.Proofs.Ytomcbbpaajpeiaa
open Go Go.RowKit
attribute [local go_sem] run_store_float run_store_complex

theorem at_convX {P : Program} {w : World} {ops : Array Oper} {rest : List Oper} {o : Option Tmp} {s d ty : TypeId} {l : Operand} {pos : String} {af : Array Edge} {a : Act} {Q : Exit → Act → World → Prop}
    (v : Value) (R : Nat → Nat → Prop) (hl : a.eval l = v) (hrun : ∃ z z' n, (convert s d v).run P w = .ok (.complex .f32 z z') (w.drewN n) ∧ R z z') (hK : ∀ z z' n, R z z' → wpList P ops Q rest (a.put o (.complex .f32 z z')) (w.drewN n)) :
    wpList P ops Q (⟨o, .convert s d l, ty, pos, af, none⟩ :: rest) a w := by
  obtain ⟨z, z', n, hr, hR⟩ := hrun
  refine wpList_plain rfl fun K hK' => ?_
  unfold Oper.wp
  simp [execOp, hl, hr, Result.andThen]
  exact hK' _ _ (hK z z' n hR)
theorem run_narrowC (w : World) {x y a b : Nat} (h : Alike .f64 x (wide a)) (k : Alike .f64 y (wide b)) : ∃ z z' n, (convert 50 49 (.complex .f64 x y)).run Try.prog w = .ok (.complex .f32 z z') (w.drewN n) ∧ (nanB .f32 a = false → (FloatKind.f32.format.order z a == some .eq) = true) ∧ (nanB .f32 b = false → (FloatKind.f32.format.order z' b == some .eq) = true) := by
  obtain ⟨z, n, h1, h2⟩ := run_narrow (P := Try.prog) w h
  obtain ⟨z', n', k1, k2⟩ := run_narrow (P := Try.prog) (w.drewN n) k
  refine ⟨z, z', n + n', ?_, h2, k2⟩
  have hs : Try.prog.underlying 50 = some (.complex .f64) := Try.underlying50
  have hd : Try.prog.underlying 49 = some (.complex .f32) := Try.underlying49
  simp [convert, run_underlying hs, run_underlying hd, Conv.complexToComplex, h1, k1]
set_option maxHeartbeats 1000000 in
theorem sharpOf_agg (a b : Nat) (w : World) :
    Calls Try.prog 18 #[.complex .f32 a b] w fun e w' => e = .returned (.agg #[.float .f32 a, .float .f32 b]) ∧ Below w.heap.size w w' := by
  go_enter Try.func18, Try.ntmps18
  go_wp2
  refine bodyPost_ret (v := .agg #[.float .f32 a, .float .f32 b]) (by simp [results, Try.results18, go_sem]) rfl ⟨rfl, ?_⟩
  repeat (first | exact bel1 _ | refine Below.setCell ?_ (by simp; try omega) _)
set_option maxHeartbeats 1000000 in
theorem implSharper_wide (x y a b : Nat) (w : World) (h : Alike .f64 x (wide a)) (k : Alike .f64 y (wide b)) :
    Calls Try.prog 6 #[.agg #[.float .f64 x, .float .f64 y]] w fun e w' => ∃ z z', e = .returned (.agg #[.float .f32 z, .float .f32 z']) ∧ ((nanB .f32 a = false → (FloatKind.f32.format.order z a == some .eq) = true) ∧ (nanB .f32 b = false → (FloatKind.f32.format.order z' b == some .eq) = true)) ∧ Below w.heap.size w w' := by
  have H := hide h
  have K := hide k
  clear h k
  go_enter Try.func6, Try.ntmps6
  go_wp2_with fail
  refine (complexOf_any _ _ _).mono ?_
  rintro e w1 ⟨rfl, b1⟩
  obtain ⟨R, hR⟩ : ∃ R, w.heap.size + 1 = R := ⟨_, rfl⟩
  have KR : Hid (Blk w1 R [.float .f32 0, .float .f32 0]) := hide (by
    have k := (Blk.new (w := w.alloc (Obj.cells #[.float .f64 x, .float .f64 y] 31)) [.float .f32 0, .float .f32 0] 26).below b1
    simpa [← hR] using k)
  have BW := hide ((bel2 (w := w) (Obj.cells #[.float .f64 x, .float .f64 y] 31) (Obj.cells #[.float .f32 0, .float .f32 0] 26)).trans (b1.mono (by simp; omega)))
  have HR := hide hR
  rw [hR]
  clear b1 hR
  go_wp2_with (with_reducible show wpList _ _ _ (⟨_, .convert _ _ _, _, _, _, none⟩ :: _) _ _; refine at_convX (.complex .f64 x y) (fun z z' => (nanB .f32 a = false → (FloatKind.f32.format.order z a == some .eq) = true) ∧ (nanB .f32 b = false → (FloatKind.f32.format.order z' b == some .eq) = true)) rfl (run_narrowC _ (unhide H) (unhide K)) ?_; intro z z' n hzz; have HZ := hide hzz; clear hzz)
  refine (sharpOf_agg _ _ _).mono ?_
  rintro e w2 ⟨rfl, b2⟩
  have KR2 := hide (((unhide KR).drewN n).below b2)
  have BW2 := hide ((unhide BW).trans ((bel0d' n).trans (b2.mono (unhide BW).size)))
  have e0 : w2.cell? ⟨R, 0, none⟩ = some (.float .f32 0) := (unhide KR2).c 0 (by simp)
  have e1 : w2.cell? ⟨R, 1, none⟩ = some (.float .f32 0) := (unhide KR2).c 1 (by simp)
  have f0 : w2.frozen? ⟨R, 0, none⟩ = false := (unhide KR2).f 0 (by simp)
  have f1 : w2.frozen? ⟨R, 1, none⟩ = false := (unhide KR2).f 1 (by simp)
  clear b2
  go_wp2_with fail
  have hRR := unhide HR
  exact bodyPost_ret (results_cell (vs := [.float .f32 z, .float .f32 z']) rfl Try.isAgg26 Try.sizeOf26 rfl (by simpa using ((unhide KR2).set 0 (by simp) (.float .f32 z)).set 1 (by simp) (.float .f32 z'))) rfl ⟨z, z', rfl, unhide HZ, ((unhide BW2).setCell (by show w.heap.size ≤ R; omega) _).setCell (by show w.heap.size ≤ R; omega) _⟩

theorem l4DrawFloat_g {w : World} {C : Nat} {a : Option Addr} {len cap : Nat} {W0 : World} (W : World) (h : Dk w C a len cap W0 W) :
    Calls Try.prog 25 #[.pointer (some ⟨C, 0, none⟩)] W fun e w' => ∃ z, e = .returned (.float .f32 z) ∧ Dk w C a len cap W0 w' ∧ W.grownBy w' (some C) := by
  refine (l4DrawFloat_any (W0 := W) W (Dk.start h.d h.inn)).mono ?_
  rintro e w' ⟨z, rfl, k⟩
  exact ⟨z, rfl, h.call k.gr k.d, k.gr⟩
set_option maxHeartbeats 2000000 in
theorem l4DrawSharp_any {w : World} {C : Nat} {a : Option Addr} {len cap : Nat} {W0 : World} (W : World) (h : Dk w C a len cap W0 W) :
    Calls Try.prog 16 #[.pointer (some ⟨C, 0, none⟩)] W fun e w' => ∃ x0 x1 : Nat, e = .returned (.agg #[.float .f32 x0, .float .f32 x1]) ∧ Dk w C a len cap W0 w' ∧ W.grownBy w' (some C) := by
  have H0 := hide h
  have hC : W.heap.size ≠ C := Nat.ne_of_gt h.d.lt
  obtain ⟨V0, hV0⟩ : ∃ V, V = W.alloc (Obj.cells #[.float .f32 0, .float .f32 0] 26) := ⟨_, rfl⟩
  have b0 : Below W.heap.size W V0 := by rw [hV0]; exact bel1 _
  have K0 : Hid (Dk w C a len cap W V0) := hide ((Dk.start h.d h.inn).below b0)
  have R0 : Hid (Blk V0 W.heap.size [.float .f32 0, .float .f32 0]) := hide (by rw [hV0]; exact Blk.new _ _)
  have HW := hide hV0
  clear hV0 b0 h
  go_enter Try.func16, Try.ntmps16
  go_upto_region 1 with fail
  rw [← unhide HW]
  clear HW
  go_wp2_with fail
  refine (l4DrawFloat_g _ (unhide K0)).mono ?_
  rintro e w1 ⟨x0, rfl, kk, gr⟩
  have K1 := hide kk
  have R1 := hide ((unhide R0).apart gr (fun e => hC (Option.some.inj e)))
  clear kk gr K0 R0
  go_wp2_with fail
  refine (l4DrawFloat_g _ (unhide K1)).mono ?_
  rintro e w2 ⟨x1, rfl, kk, gr⟩
  have K4 := hide kk
  have R4 := hide ((unhide R1).apart gr (fun e => hC (Option.some.inj e)))
  clear kk gr K1 R1
  go_wp2_with (((with_reducible show wpList _ _ _ (⟨none, .store 26 _ _, _, _, _, none⟩ :: _) _ _); refine at_storeAgg (us := [.float .f32 0, .float .f32 0]) (vs := [.float .f32 x0, .float .f32 x1]) Try.sizeOf26 rfl rfl (unhide R4) rfl (fun v hv => by simp at hv; rcases hv with rfl | rfl <;> rfl) ?_; intro w9 k9 g9; have K9 := hide k9; have G9 := hide g9; clear k9 g9))
  have KE := (unhide K4).own (unhide G9) (Nat.le_refl _)
  exact bodyPost_ret (results_cell (vs := [.float .f32 x0, .float .f32 x1]) rfl Try.isAgg26 Try.sizeOf26 rfl (unhide K9)) rfl ⟨x0, x1, rfl, (unhide H0).call KE.gr KE.d, KE.gr⟩
structure Cq (w : World) (C : Nat) (a : Option Addr) (len cap : Nat) (W0 : World) (R T x y : Nat) (W : World) : Prop where
  k : Dk w C a len cap W0 W
  r : Blk W R [.float .f64 0, .float .f64 0]
  t : Blk W T [.float .f64 x, .float .f64 y]
  ct : C < T
  cr : C < R
  rt : R < T
theorem Cq.below {w : World} {C : Nat} {a : Option Addr} {len cap : Nat} {W0 : World} {R T x y : Nat} {W W' : World} (h : Cq w C a len cap W0 R T x y W) (b : Below W.heap.size W W') : Cq w C a len cap W0 R T x y W' := ⟨h.k.below b, h.r.below b, h.t.below b, h.ct, h.cr, h.rt⟩
theorem Cq.call {w : World} {C : Nat} {a : Option Addr} {len cap : Nat} {W0 : World} {R T x y : Nat} {W W' : World} (h : Cq w C a len cap W0 R T x y W) (gr : W.grownBy W' (some C)) (kk : Dk w C a len cap W0 W') : Cq w C a len cap W0 R T x y W' := by
  have h1 := h.ct
  have h2 := h.cr
  exact ⟨kk, h.r.apart gr (fun e => by have := Option.some.inj e; omega), h.t.apart gr (fun e => by have := Option.some.inj e; omega), h1, h2, h.rt⟩
theorem Cq.set {w : World} {C : Nat} {a : Option Addr} {len cap : Nat} {W0 : World} {T x y : Nat} {W : World} (h : Cq w C a len cap W0 W0.heap.size T x y W) (x' y' : Nat) : Cq w C a len cap W0 W0.heap.size T x' y' ((W.setCell ⟨T, 0, none⟩ (.float .f64 x')).setCell ⟨T, 1, none⟩ (.float .f64 y')) := by
  have h3 := h.rt
  have gs : W.grownBy ((W.setCell ⟨T, 0, none⟩ (.float .f64 x')).setCell ⟨T, 1, none⟩ (.float .f64 y')) (some T) := grown_set (grown_set (grown_refl W (some T)) 0 _) 1 _
  exact ⟨h.k.own gs (by omega), (h.r.other (by simp; omega) _).other (by simp; omega) _, by simpa using (h.t.set 0 (by simp) (.float .f64 x')).set 1 (by simp) (.float .f64 y'), h.ct, h.cr, h3⟩
set_option maxHeartbeats 4000000 in
theorem l4DrawCx_any {w : World} {C : Nat} {a : Option Addr} {len cap : Nat} {W0 : World} (W : World) (h : Dk w C a len cap W0 W) :
    Calls Try.prog 26 #[.pointer (some ⟨C, 0, none⟩)] W fun e w' => ∃ x0 x1 : Nat, e = .returned (.agg #[.float .f64 x0, .float .f64 x1]) ∧ Dk w C a len cap W0 w' ∧ W.grownBy w' (some C) := by
  have H0 := hide h
  have hC : W.heap.size ≠ C := Nat.ne_of_gt h.d.lt
  have hCW : C < W.heap.size := h.d.lt
  obtain ⟨V0, hV0⟩ : ∃ V, V = W.alloc (Obj.cells #[.float .f64 0, .float .f64 0] 31) := ⟨_, rfl⟩
  have b0 : Below W.heap.size W V0 := by rw [hV0]; exact bel1 _
  have K0 : Hid (Dk w C a len cap W V0) := hide ((Dk.start h.d h.inn).below b0)
  have R0 : Hid (Blk V0 W.heap.size [.float .f64 0, .float .f64 0]) := hide (by rw [hV0]; exact Blk.new _ _)
  have HW := hide hV0
  clear hV0 b0 h
  go_enter Try.func26, Try.ntmps26
  go_upto_region 1 with fail
  rw [← unhide HW]
  clear HW
  go_wp2_with fail
  refine (l4DrawSharp_any _ (unhide K0)).mono ?_
  rintro e w1 ⟨x0, x1, rfl, kk, gr⟩
  have K1 := hide kk
  have R1 := hide ((unhide R0).apart gr (fun e => hC (Option.some.inj e)))
  clear kk gr K0 R0
  go_wp2_with fail
  refine (specWider_any x0 x1 w1).mono ?_
  rintro e w2 ⟨y0, y1, rfl, _, _, b2⟩
  obtain ⟨V2, hV2⟩ : ∃ V, V = w2.alloc (Obj.cells #[.float .f64 y0, .float .f64 y1] 31) := ⟨_, rfl⟩
  have b3 : Below w2.heap.size w2 V2 := by rw [hV2]; exact bel1 _
  obtain ⟨T, hT⟩ : ∃ T, w2.heap.size = T := ⟨_, rfl⟩
  have hCT : C < T := by have h1 := (unhide K1).d.lt; have h2 := b2.size; omega
  have hWT : W.heap.size < T := by have h1 := (unhide R1).lt; have h2 := b2.size; omega
  have K3 := hide (((unhide K1).below b2).below b3)
  have R3 := hide (((unhide R1).below b2).below b3)
  have T3 : Hid (Blk V2 T [.float .f64 y0, .float .f64 y1]) := hide (by rw [hV2, ← hT]; exact Blk.new _ _)
  have HV2 := hide hV2
  have HT := hide hT
  clear b2 b3 hV2 hT K1 R1
  go_upto_region 2 with fail
  rw [← unhide HV2, unhide HT]
  clear HV2 HT
  go_wp2_with fail
  refine (drOnce (w := w) (a := a) (len := len) (cap := cap) 3 _ (unhide K3).d (by omega)).mono ?_
  rintro e w4 ⟨o, rfl, d4, gr⟩
  have K4 := hide ((unhide K3).call gr d4)
  have R4 := hide ((unhide R3).apart gr (fun e => hC (Option.some.inj e)))
  have T4 := hide ((unhide T3).apart gr (fun e => by have := Option.some.inj e; omega))
  clear d4 gr K3 R3 T3
  cases o
  · have t0 : w4.cell? ⟨T, 0, none⟩ = some (.float .f64 y0) := (unhide T4).c 0 (by simp)
    have t1 : w4.cell? ⟨T, 1, none⟩ = some (.float .f64 y1) := (unhide T4).c 1 (by simp)
    go_wp2_with (((with_reducible show wpList _ _ _ (⟨none, .store 31 _ _, _, _, _, none⟩ :: _) _ _); refine at_storeAgg (us := [.float .f64 0, .float .f64 0]) (vs := [.float .f64 y0, .float .f64 y1]) Try.sizeOf31 rfl rfl (unhide R4) rfl (fun v hv => by simp at hv; rcases hv with rfl | rfl <;> rfl) ?_; intro w9 k9 g9; have K9 := hide k9; have G9 := hide g9; clear k9 g9))
    have KE := (unhide K4).own (unhide G9) (Nat.le_refl _)
    exact bodyPost_ret (results_cell (vs := [.float .f64 y0, .float .f64 y1]) rfl Try.isAgg31 Try.sizeOf31 rfl (unhide K9)) rfl ⟨y0, y1, rfl, (unhide H0).call KE.gr KE.d, KE.gr⟩
  · have Q4 : Hid (Cq w C a len cap W W.heap.size T y0 y1 w4) := hide ⟨unhide K4, unhide R4, unhide T4, hCT, hCW, hWT⟩
    clear K4 R4 T4
    have t0 : w4.cell? ⟨T, 0, none⟩ = some (.float .f64 y0) := (unhide Q4).t.c 0 (by simp)
    have t1 : w4.cell? ⟨T, 1, none⟩ = some (.float .f64 y1) := (unhide Q4).t.c 1 (by simp)
    go_upto_region 3 with fail
    go_cut [] from 9 to 13 (fun wc => ∃ z0 z1, Cq w C a len cap W W.heap.size T z0 z1 wc)
    case first =>
      go_region_law (first
        | ((fail_if_success have := D1); go_simp; go_wp2_with (go_at_call 16; refine (l4DrawSharp_any (w := w) (a := a) (len := len) (cap := cap) (W0 := W) _ (by first | exact (unhide Q4).k | exact ((unhide Q4).below (bel0d' 1)).k)).mono ?_; rintro e u1 ⟨s0, s1, rfl, kk, gr⟩; have D1 : Hid (Cq w C a len cap W W.heap.size T y0 y1 u1) := hide (Cq.call (by first | exact unhide Q4 | exact (unhide Q4).below (bel0d' 1)) gr kk); have t0a : u1.cell? ⟨T, 0, none⟩ = some (.float .f64 y0) := (unhide D1).t.c 0 (by simp); have t1a : u1.cell? ⟨T, 1, none⟩ = some (.float .f64 y1) := (unhide D1).t.c 1 (by simp); clear kk gr))
        | ((fail_if_success (fail_if_success have := D1)); (fail_if_success have := D2); go_simp; go_wp2_with (go_at_call 30; refine (specWider_any s0 s1 _).mono ?_; rintro e u2 ⟨r0, r1, rfl, _, _, b5⟩; have D2 : Hid (Cq w C a len cap W W.heap.size T y0 y1 u2) := hide (by first | exact (unhide D1).below b5 | exact ((unhide D1).below (bel0d' 1)).below b5); have t0b : u2.cell? ⟨T, 0, none⟩ = some (.float .f64 y0) := (unhide D2).t.c 0 (by simp); have t1b : u2.cell? ⟨T, 1, none⟩ = some (.float .f64 y1) := (unhide D2).t.c 1 (by simp); clear b5))
        | ((fail_if_success (fail_if_success have := D2)); (fail_if_success have := D3); go_simp; go_wp2_with (go_at_call 31; refine (specCxTimes_any y0 y1 r0 r1 _).mono ?_; rintro e u3 ⟨q0, q1, rfl, _, _, b6⟩; have D3 : Hid (Cq w C a len cap W W.heap.size T y0 y1 u3) := hide (by first | exact (unhide D2).below b6 | exact ((unhide D2).below (bel0d' 1)).below b6); have t0c : u3.cell? ⟨T, 0, none⟩ = some (.float .f64 y0) := (unhide D3).t.c 0 (by simp); have t1c : u3.cell? ⟨T, 1, none⟩ = some (.float .f64 y1) := (unhide D3).t.c 1 (by simp); have t2c : u3.frozen? ⟨T, 0, none⟩ = false := (unhide D3).t.f 0 (by simp); have t3c : u3.frozen? ⟨T, 1, none⟩ = false := (unhide D3).t.f 1 (by simp); clear b6)))
      all_goals
        go_wp2_with fail
        go_meet
        case rel => exact ⟨_, _, (unhide D3).set q0 q1⟩
    case rest =>
      obtain ⟨z0, z1, hQ⟩ := hcut
      have Q5 := hide hQ
      clear hQ Q4 t0 t1
      have t0 : wc.cell? ⟨T, 0, none⟩ = some (.float .f64 z0) := (unhide Q5).t.c 0 (by simp)
      have t1 : wc.cell? ⟨T, 1, none⟩ = some (.float .f64 z1) := (unhide Q5).t.c 1 (by simp)
      have R5 := hide (unhide Q5).r
      go_wp2_with (((with_reducible show wpList _ _ _ (⟨none, .store 31 _ _, _, _, _, none⟩ :: _) _ _); refine at_storeAgg (us := [.float .f64 0, .float .f64 0]) (vs := [.float .f64 z0, .float .f64 z1]) Try.sizeOf31 rfl rfl (unhide R5) rfl (fun v hv => by simp at hv; rcases hv with rfl | rfl <;> rfl) ?_; intro w9 k9 g9; have K9 := hide k9; have G9 := hide g9; clear k9 g9))
      have KE := (unhide Q5).k.own (unhide G9) (Nat.le_refl _)
      exact bodyPost_ret (results_cell (vs := [.float .f64 z0, .float .f64 z1]) rfl Try.isAgg31 Try.sizeOf31 rfl (unhide K9)) rfl ⟨z0, z1, rfl, (unhide H0).call KE.gr KE.d, KE.gr⟩

end Go.Proofs.Ytomcbbpaajpeiaa
