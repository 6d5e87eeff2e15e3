/-
  What the program's quotient of complex numbers answers. No condition; nothing that was there is written.
-/
import Derived.Test.YtchkhnmfngkglaaCxImpl
import Derived.Test.YtchkhnmfngkglaaOverPure
import Derived.Test.YtchkhnmfngkglaaFinImpl
namespace Go.Proofs.Ytchkhnmfngkglaa
open Go.RowKit
attribute [local go_sem] run_store_float run_store_complex unary_neg_float

set_option maxHeartbeats 1000000 in
theorem squares_any (c d : Nat) (w : World) :
    Calls Try.prog 32 #[.complex .f64 c d] w fun e w' => ∃ z, e = .returned (.float .f64 z) ∧ Alike .f64 z (sq c d) ∧ ∃ n, w' = w.drewN n := by
  go_enter Try.func32, Try.ntmps32
  go_wp2_with (with_reducible show wpList _ _ _ (⟨_, .binOp _ _ _ _ _, _, _, _, none⟩ :: _) _ _; refine at_flop (by decide) .f64 _ _ rfl rfl ?_; intro z1 n1 h1)
  go_ret
  exact ⟨_, rfl, h1.trans (Alike.fl (by assumption) (by assumption)), _, rfl⟩

set_option maxHeartbeats 1000000 in
theorem conjugate_any (c d : Nat) (w : World) :
    Calls Try.prog 35 #[.complex .f64 c d] w fun e w' => e = .returned (.complex .f64 c (ng d)) ∧ w' = w := by
  go_enter Try.func35, Try.ntmps35
  go_wp2
  go_ret
  exact ⟨rfl, rfl⟩

set_option maxHeartbeats 4000000 in
theorem implCxOver_any (a b c d : Nat) (w : World) :
    Calls Try.prog 18 #[.agg #[.float .f64 a, .float .f64 b], .agg #[.float .f64 c, .float .f64 d]] w fun e w' => ∃ x y, e = .returned (.tuple #[.agg #[.float .f64 x, .float .f64 y], .bool (okOver a b c d)]) ∧ Alike .f64 x (reOver a b c d) ∧ Alike .f64 y (imOver a b c d) ∧ Below w.heap.size w w' := by
  go_enter Try.func18, Try.ntmps18
  go_wp2
  obtain ⟨w1, hw1⟩ : ∃ w1, w1 = (((w.alloc (Obj.cells #[.float .f64 a, .float .f64 b] 31)).alloc (Obj.cells #[.float .f64 c, .float .f64 d] 31)).alloc (Obj.cells #[.float .f64 0, .float .f64 0] 31)) := ⟨_, rfl⟩
  obtain ⟨R, hR⟩ : ∃ R, R = w.heap.size + 1 + 1 := ⟨_, rfl⟩
  rw [← hw1, ← hR]
  have c0 : w1.cell? ⟨w.heap.size, 0, none⟩ = some (.float .f64 a) := by rw [hw1]; simp [go_sem]
  have c1 : w1.cell? ⟨w.heap.size, 1, none⟩ = some (.float .f64 b) := by rw [hw1]; simp [go_sem]
  have c2 : w1.cell? ⟨w.heap.size + 1, 0, none⟩ = some (.float .f64 c) := by rw [hw1]; simp [go_sem]
  have c3 : w1.cell? ⟨w.heap.size + 1, 1, none⟩ = some (.float .f64 d) := by rw [hw1]; simp [go_sem]
  have r0 : w1.cell? ⟨R, 0, none⟩ = some (.float .f64 0) := by rw [hw1, hR]; simp [go_sem]
  have r1 : w1.cell? ⟨R, 1, none⟩ = some (.float .f64 0) := by rw [hw1, hR]; simp [go_sem]
  have f0 : w1.frozen? ⟨R, 0, none⟩ = false := by rw [hw1, hR]; simp [go_sem]
  have f1 : w1.frozen? ⟨R, 1, none⟩ = false := by rw [hw1, hR]; simp [go_sem]
  have l0 : w.heap.size < w1.heap.size := by rw [hw1]; simp; omega
  have l1 : w.heap.size + 1 < w1.heap.size := by rw [hw1]; simp
  have l2 : R < w1.heap.size := by rw [hw1, hR]; simp
  have B1 : Hid (Below w.heap.size w w1) := hide (by rw [hw1]; exact bel3 _ _ _)
  have m0 : ¬ (R = w.heap.size) := by omega
  have m0' : ¬ (w.heap.size = R) := by omega
  have m1 : ¬ (R = w.heap.size + 1) := by omega
  have m1' : ¬ (w.heap.size + 1 = R) := by omega
  have lr : w.heap.size ≤ R := by omega
  clear hw1 hR
  go_region_held3 (fun w' => w'.cell? ⟨w.heap.size, 0, none⟩ = some (.float .f64 a) ∧ w'.cell? ⟨w.heap.size, 1, none⟩ = some (.float .f64 b) ∧ w'.cell? ⟨w.heap.size + 1, 0, none⟩ = some (.float .f64 c) ∧ w'.cell? ⟨w.heap.size + 1, 1, none⟩ = some (.float .f64 d)) (go_keep)
    ((go_at_call 26; refine (complexOf_any _ _ _).mono ?_; rintro e w3 ⟨rfl, b3⟩; have c0 := (b3.cell (p := ⟨w.heap.size, 0, none⟩) l0).trans c0; have c1 := (b3.cell (p := ⟨w.heap.size, 1, none⟩) l0).trans c1; have c2 := (b3.cell (p := ⟨w.heap.size + 1, 0, none⟩) l1).trans c2; have c3 := (b3.cell (p := ⟨w.heap.size + 1, 1, none⟩) l1).trans c3; have r0 := (b3.cell (p := ⟨R, 0, none⟩) l2).trans r0; have r1 := (b3.cell (p := ⟨R, 1, none⟩) l2).trans r1; have f0 := (b3.frozen (p := ⟨R, 0, none⟩) l2).trans f0; have f1 := (b3.frozen (p := ⟨R, 1, none⟩) l2).trans f1; have B1 := hide (show Below w.heap.size w w3 from by first | exact (unhide B1).trans (b3.mono (Nat.le_of_lt l0)) | exact ((unhide B1).trans (bel0d' _)).trans (b3.mono (Nat.le_of_lt l0))); have l0 := Nat.lt_of_lt_of_le l0 b3.size; have l1 := Nat.lt_of_lt_of_le l1 b3.size; have l2 := Nat.lt_of_lt_of_le l2 b3.size; clear b3))
  clear c0 c1 c2 c3
  go_wp2_with fail
  refine (squares_any _ _ _).mono ?_
  rintro e w4 ⟨zs, rfl, hs, ns, rfl⟩
  have es := hs.fin
  have eo : FloatKind.f64.format.order zs 0 = FloatKind.f64.format.order (sq c d) 0 := hs.order (.refl _ _)
  have no : okOver a b c d = false → reOver a b c d = 0 ∧ imOver a b c d = 0 := fun h => by unfold reOver imOver; rw [h]; exact ⟨rfl, rfl⟩
  by_cases hok : okOver a b c d = true
  · have hh := hok
    unfold okOver at hh
    simp only [Bool.and_eq_true, Bool.not_eq_true'] at hh
    obtain ⟨⟨⟨⟨⟨ka, kb⟩, kc⟩, kd⟩, ks⟩, k0⟩ := hh
    rw [ks] at es
    rw [← eo] at k0
    clear no
    have HS := hide hs
    have HO := hide hok
    clear hs hok eo ks
    go_wp2_with (first | (go_at_call 33; refine (bothFinite_any _ _ _).mono ?_; rintro e w9 ⟨rfl, hw9⟩; subst w9) | (go_at_call 34; refine (finite_any _ _).mono ?_; rintro e w9 ⟨rfl, hw9⟩; subst w9))
    refine (conjugate_any _ _ _).mono ?_
    rintro e w9 ⟨rfl, hw9⟩
    subst w9
    go_wp2_with fail
    refine (product_any _ _ _ _ _).mono ?_
    rintro e w9 ⟨x, y, rfl, hx, hy, n9, rfl⟩
    go_wp2_with (with_reducible show wpList _ _ _ (⟨_, .binOp _ _ _ _ _, _, _, _, none⟩ :: _) _ _; refine at_flop (by decide) .f64 _ _ rfl rfl ?_; intro z1 n1 h1)
    rename_i z0 n0 h0
    refine bodyPost_ret (v := .tuple #[.agg #[.float .f64 z0, .float .f64 z1], .bool true]) (by simp [results, Try.results18, go_sem, *]) rfl ⟨z0, z1, by rw [unhide HO], ?_, ?_, ?_⟩
    · unfold reOver
      rw [unhide HO]
      exact h0.trans (hx.fl (unhide HS))
    · unfold imOver
      rw [unhide HO]
      exact h1.trans (hy.fl (unhide HS))
    · repeat (first | exact unhide B1 | refine Below.setCell ?_ lr _ | refine below_drewN ?_ _)
  · have hok : okOver a b c d = false := by simpa using hok
    obtain ⟨e1, e2⟩ := no hok
    have HO := hide hok
    have HE1 := hide e1
    have HE2 := hide e2
    clear no e1 e2
    cases k1 : (finB a && finB b) with
    | false =>
      clear hs es eo hok
      go_wp2_with (first | (go_at_call 33; refine (bothFinite_any _ _ _).mono ?_; rintro e w9 ⟨rfl, hw9⟩; subst w9) | (go_at_call 34; refine (finite_any _ _).mono ?_; rintro e w9 ⟨rfl, hw9⟩; subst w9))
      refine bodyPost_ret (v := .tuple #[.agg #[.float .f64 0, .float .f64 0], .bool false]) (by simp [results, Try.results18, go_sem, *]) rfl ⟨0, 0, by rw [unhide HO], by rw [unhide HE1]; exact .refl _ _, by rw [unhide HE2]; exact .refl _ _, ?_⟩
      repeat (first | exact unhide B1 | refine Below.setCell ?_ lr _ | refine below_drewN ?_ _)
    | true =>
      cases k2 : (finB c && finB d) with
      | false =>
        clear hs es eo hok
        go_wp2_with (first | (go_at_call 33; refine (bothFinite_any _ _ _).mono ?_; rintro e w9 ⟨rfl, hw9⟩; subst w9) | (go_at_call 34; refine (finite_any _ _).mono ?_; rintro e w9 ⟨rfl, hw9⟩; subst w9))
        refine bodyPost_ret (v := .tuple #[.agg #[.float .f64 0, .float .f64 0], .bool false]) (by simp [results, Try.results18, go_sem, *]) rfl ⟨0, 0, by rw [unhide HO], by rw [unhide HE1]; exact .refl _ _, by rw [unhide HE2]; exact .refl _ _, ?_⟩
        repeat (first | exact unhide B1 | refine Below.setCell ?_ lr _ | refine below_drewN ?_ _)
      | true =>
        cases k3 : (FloatKind.f64.format.order (sq c d) 0 == some .eq) with
        | true =>
          rw [← eo] at k3
          clear hs es eo hok
          go_wp2_with (first | (go_at_call 33; refine (bothFinite_any _ _ _).mono ?_; rintro e w9 ⟨rfl, hw9⟩; subst w9) | (go_at_call 34; refine (finite_any _ _).mono ?_; rintro e w9 ⟨rfl, hw9⟩; subst w9))
          refine bodyPost_ret (v := .tuple #[.agg #[.float .f64 0, .float .f64 0], .bool false]) (by simp [results, Try.results18, go_sem, *]) rfl ⟨0, 0, by rw [unhide HO], by rw [unhide HE1]; exact .refl _ _, by rw [unhide HE2]; exact .refl _ _, ?_⟩
          repeat (first | exact unhide B1 | refine Below.setCell ?_ lr _ | refine below_drewN ?_ _)
        | false =>
          have ks : finB (sq c d) = false := by
            unfold okOver at hok
            simp only [Bool.and_eq_true] at k1 k2
            rw [k1.1, k1.2, k2.1, k2.2, k3] at hok
            simpa using hok
          rw [ks] at es
          rw [← eo] at k3
          clear hs eo hok ks
          go_wp2_with (first | (go_at_call 33; refine (bothFinite_any _ _ _).mono ?_; rintro e w9 ⟨rfl, hw9⟩; subst w9) | (go_at_call 34; refine (finite_any _ _).mono ?_; rintro e w9 ⟨rfl, hw9⟩; subst w9))
          refine bodyPost_ret (v := .tuple #[.agg #[.float .f64 0, .float .f64 0], .bool false]) (by simp [results, Try.results18, go_sem, *]) rfl ⟨0, 0, by rw [unhide HO], by rw [unhide HE1]; exact .refl _ _, by rw [unhide HE2]; exact .refl _ _, ?_⟩
          repeat (first | exact unhide B1 | refine Below.setCell ?_ lr _ | refine below_drewN ?_ _)

end Go.Proofs.Ytchkhnmfngkglaa
