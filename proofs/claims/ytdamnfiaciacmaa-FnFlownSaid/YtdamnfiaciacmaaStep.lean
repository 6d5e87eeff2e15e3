/-
  What StepOnce answers in the specification and in the program: the plain motion. No condition; nothing that was there is written.
-/
import Derived.Test.YtdamnfiaciacmaaStepPure
namespace Go.Proofs.Ytdamnfiaciacmaa
open Go.RowKit
attribute [local go_sem] run_store_float

theorem bel4d {w : World} (o p q r : Obj) (n : Nat) : Below w.heap.size w (((((w.alloc o).alloc p).alloc q).alloc r).drewN n) := ((bel3 o p q).alloc (by simp; omega) r).trans ⟨rfl, rfl, rfl, Nat.le_refl _, fun _ _ => rfl⟩

set_option maxHeartbeats 4000000 in
theorem specStepOnce_any (a0 a1 a2 a3 f0 f1 f2 f3 f4 el dt : Nat) (w : World) :
    Calls Try.prog 18 #[.agg #[.float .f64 a0, .float .f64 a1, .float .f64 a2, .float .f64 a3], .agg #[.float .f64 f0, .float .f64 f1, .float .f64 f2, .float .f64 f3, .float .f64 f4], .float .f64 el, .float .f64 dt] w
      fun e w' => ∃ x0 x1 x2 x3, e = .returned (.agg #[.float .f64 x0, .float .f64 x1, .float .f64 x2, .float .f64 x3]) ∧ moAlike ⟨x0, x1, x2, x3⟩ (stepM ⟨a0, a1, a2, a3⟩ ⟨f0, f1, f2, f3, f4⟩ el dt) ∧ Below w.heap.size w w' := by
  go_enter Try.func18, Try.ntmps18
  go_wp2_with (with_reducible show wpList _ _ _ (⟨_, .binOp _ _ _ _ _, _, _, _, none⟩ :: _) _ _; refine at_flop (by decide) .f64 _ _ rfl rfl ?_; intro z1 n1 h1)
  rename_i p1 m1 g1 p2 m2 g2 p3 m3 g3 p4 m4 g4 p5 m5 g5 p6 m6 g6 p7 m7 g7 p8 m8 g8 p9 m9 g9 p10 m10 g10 p11 m11 g11 p12 m12 g12 p13 m13 g13 p14 m14 g14 p15 m15 g15
  have r := fun x => Alike.refl .f64 x
  have k2 := g2.trans ((r _).fl g1)
  have k4 := g4.trans ((r _).fl k2)
  have k5 := g5.trans (k4.fl g3)
  have k6 := g6.trans (k5.fl (r _))
  have k8 := g8.trans (g7.fl (r _))
  have k11 := g11.trans ((r _).fl g10)
  have k12 := g12.trans (k11.fl (r _))
  refine bodyPost_ret (v := .agg #[.float .f64 p13, .float .f64 p14, .float .f64 p15, .float .f64 z1]) (by simp [results, Try.results18, go_sem]) rfl ⟨_, _, _, _, rfl, ⟨g13.trans ((r _).fl k6), g14.trans ((r _).fl k8), g15.trans ((r _).fl g9), h1.trans ((r _).fl k12)⟩, ?_⟩
  repeat (first | exact bel3d _ _ _ _ | exact bel4d _ _ _ _ _ | refine Below.setCell ?_ (by simp; try omega) _)

set_option maxHeartbeats 4000000 in
theorem implStepOnce_any (a0 a1 a2 a3 f0 f1 f2 f3 f4 el dt : Nat) (w : World) :
    Calls Try.prog 10 #[.agg #[.float .f64 a0, .float .f64 a1, .float .f64 a2, .float .f64 a3], .agg #[.float .f64 f0, .float .f64 f1, .float .f64 f2, .float .f64 f3, .float .f64 f4], .float .f64 el, .float .f64 dt] w
      fun e w' => ∃ x0 x1 x2 x3, e = .returned (.agg #[.float .f64 x0, .float .f64 x1, .float .f64 x2, .float .f64 x3]) ∧ moAlike ⟨x0, x1, x2, x3⟩ (stepM ⟨a0, a1, a2, a3⟩ ⟨f0, f1, f2, f3, f4⟩ el dt) ∧ Below w.heap.size w w' := by
  go_enter Try.func10, Try.ntmps10
  go_wp2_with (with_reducible show wpList _ _ _ (⟨_, .binOp _ _ _ _ _, _, _, _, none⟩ :: _) _ _; refine at_flop (by decide) .f64 _ _ rfl rfl ?_; intro z1 n1 h1)
  rename_i p1 m1 g1 p2 m2 g2 p3 m3 g3 p4 m4 g4 p5 m5 g5 p6 m6 g6 p7 m7 g7 p8 m8 g8 p9 m9 g9 p10 m10 g10 p11 m11 g11 p12 m12 g12 p13 m13 g13 p14 m14 g14 p15 m15 g15
  have r := fun x => Alike.refl .f64 x
  have k2 := g2.trans ((r _).fl g1)
  have k4 := g4.trans ((r _).fl k2)
  have k5 := g5.trans (k4.fl g3)
  have k6 := g6.trans (k5.fl (r _))
  have k9 := g9.trans (g8.fl (r _))
  have k14 := g14.trans ((r _).fl g13)
  have k15 := g15.trans (k14.fl (r _))
  refine bodyPost_ret (v := .agg #[.float .f64 p7, .float .f64 p10, .float .f64 p12, .float .f64 z1]) (by simp [results, Try.results10, go_sem]) rfl ⟨_, _, _, _, rfl, ⟨g7.trans ((r _).fl k6), g10.trans ((r _).fl k9), g12.trans ((r _).fl g11), h1.trans ((r _).fl k15)⟩, ?_⟩
  repeat (first | exact bel3d _ _ _ _ | exact bel4d _ _ _ _ _ | refine Below.setCell ?_ (by simp; try omega) _)

end Go.Proofs.Ytdamnfiaciacmaa
