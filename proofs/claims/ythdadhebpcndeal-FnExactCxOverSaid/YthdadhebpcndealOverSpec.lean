/-
  What the specification's quotient of complex numbers answers. No condition; nothing that was there is written.
-/
import Derived.Test.YthdadhebpcndealCxSpec
import Derived.Test.YthdadhebpcndealOverPure
namespace Go.Proofs.Ythdadhebpcndeal
open Go.RowKit
attribute [local go_sem] run_store_float run_store_complex unary_neg_float

set_option maxHeartbeats 4000000 in
theorem specCxOver_any (a b c d : Nat) (w : World) :
    Calls Try.prog 20 #[.agg #[.float .f64 a, .float .f64 b], .agg #[.float .f64 c, .float .f64 d]] w fun e w' => ∃ x y, e = .returned (.tuple #[.agg #[.float .f64 x, .float .f64 y], .bool (okOver a b c d)]) ∧ Alike .f64 x (reOver a b c d) ∧ Alike .f64 y (imOver a b c d) ∧ Below w.heap.size w w' := by
  go_enter Try.func20, Try.ntmps20
  go_wp2_with (with_reducible show wpList _ _ _ (⟨_, .binOp _ _ _ _ _, _, _, _, none⟩ :: _) _ _; refine at_flop (by decide) .f64 _ _ rfl rfl ?_; intro zs n1 h1)
  have hs : Alike .f64 zs (sq c d) := h1.trans (Alike.fl (by assumption) (by assumption))
  have es := hs.fin
  have eo : FloatKind.f64.format.order zs 0 = FloatKind.f64.format.order (sq c d) 0 := hs.order (.refl _ _)
  clear h1
  have no : okOver a b c d = false → reOver a b c d = 0 ∧ imOver a b c d = 0 := fun h => by unfold reOver imOver; rw [h]; exact ⟨rfl, rfl⟩
  by_cases hok : okOver a b c d = true
  · have hh := hok
    unfold okOver at hh
    simp only [Bool.and_eq_true, Bool.not_eq_true'] at hh
    obtain ⟨⟨⟨⟨⟨ka, kb⟩, kc⟩, kd⟩, ks⟩, k0⟩ := hh
    rw [ks] at es
    rw [← eo] at k0
    clear no
    have HS := hide hs
    have HO := hide hok
    clear hs hok eo ks
    go_wp2_with (go_at_call 29; refine (specFinite_any _ _).mono ?_; rintro e w9 ⟨rfl, n9, rfl⟩)
    refine (specCxTimes_any _ _ _ _ _).mono ?_
    rintro e w5 ⟨x, y, rfl, hx, hy, b5⟩
    have r0 : w5.cell? ⟨w.heap.size + 1 + 1, 0, none⟩ = some (.float .f64 0) := (b5.cell (p := ⟨w.heap.size + 1 + 1, 0, none⟩) (by simp)).trans (by simp [go_sem])
    have r1 : w5.cell? ⟨w.heap.size + 1 + 1, 1, none⟩ = some (.float .f64 0) := (b5.cell (p := ⟨w.heap.size + 1 + 1, 1, none⟩) (by simp)).trans (by simp [go_sem])
    have f0 : w5.frozen? ⟨w.heap.size + 1 + 1, 0, none⟩ = false := (b5.frozen (p := ⟨w.heap.size + 1 + 1, 0, none⟩) (by simp)).trans (by simp [go_sem])
    have f1 : w5.frozen? ⟨w.heap.size + 1 + 1, 1, none⟩ = false := (b5.frozen (p := ⟨w.heap.size + 1 + 1, 1, none⟩) (by simp)).trans (by simp [go_sem])
    have l5 : w.heap.size + 1 + 1 < w5.heap.size := Nat.lt_of_lt_of_le (by simp) b5.size
    have B5 := hide ((bel3d _ _ _ _).trans (b5.mono (by simp; omega)))
    clear b5
    obtain ⟨R, hR⟩ : ∃ R, R = w.heap.size + 1 + 1 := ⟨_, rfl⟩
    rw [← hR] at r0 r1 f0 f1 l5 ⊢
    have lr : w.heap.size ≤ R := by omega
    have m0 : ¬ (R = w5.heap.size) := by omega
    have m1 : ¬ (w5.heap.size = R) := by omega
    clear hR
    go_wp2_with (with_reducible show wpList _ _ _ (⟨_, .binOp _ _ _ _ _, _, _, _, none⟩ :: _) _ _; refine at_flop (by decide) .f64 _ _ rfl rfl ?_; intro z1 n1 h1)
    rename_i z0 n0 h0
    refine bodyPost_ret (v := .tuple #[.agg #[.float .f64 z0, .float .f64 z1], .bool true]) (by simp [results, Try.results20, go_sem, *]) rfl ⟨z0, z1, by rw [unhide HO], ?_, ?_, ?_⟩
    · unfold reOver
      rw [unhide HO]
      exact h0.trans (hx.fl (unhide HS))
    · unfold imOver
      rw [unhide HO]
      exact h1.trans (hy.fl (unhide HS))
    · have z5 : w.heap.size ≤ w5.heap.size := by omega
      repeat (first | exact unhide B5 | refine Below.setCell ?_ (by first | exact lr | exact z5) _ | refine below_drewN ?_ _ | refine Below.alloc ?_ z5 _)
  · have hok : okOver a b c d = false := by simpa using hok
    obtain ⟨e1, e2⟩ := no hok
    have HO := hide hok
    have HE1 := hide e1
    have HE2 := hide e2
    clear no e1 e2
    cases ka : finB a with
    | false =>
      clear hs es eo hok
      go_wp2_with (go_at_call 29; refine (specFinite_any _ _).mono ?_; rintro e w9 ⟨rfl, n9, rfl⟩)
      refine bodyPost_ret (v := .tuple #[.agg #[.float .f64 0, .float .f64 0], .bool false]) (by simp [results, Try.results20, go_sem]) rfl ⟨0, 0, by rw [unhide HO], by rw [unhide HE1]; exact .refl _ _, by rw [unhide HE2]; exact .refl _ _, ?_⟩
      repeat (first | exact bel3d _ _ _ _ | refine Below.setCell ?_ (by simp; try omega) _)
    | true =>
      cases kb : finB b with
      | false =>
        clear hs es eo hok
        go_wp2_with (go_at_call 29; refine (specFinite_any _ _).mono ?_; rintro e w9 ⟨rfl, n9, rfl⟩)
        refine bodyPost_ret (v := .tuple #[.agg #[.float .f64 0, .float .f64 0], .bool false]) (by simp [results, Try.results20, go_sem]) rfl ⟨0, 0, by rw [unhide HO], by rw [unhide HE1]; exact .refl _ _, by rw [unhide HE2]; exact .refl _ _, ?_⟩
        repeat (first | exact bel3d _ _ _ _ | refine Below.setCell ?_ (by simp; try omega) _)
      | true =>
        cases kc : finB c with
        | false =>
          clear hs es eo hok
          go_wp2_with (go_at_call 29; refine (specFinite_any _ _).mono ?_; rintro e w9 ⟨rfl, n9, rfl⟩)
          refine bodyPost_ret (v := .tuple #[.agg #[.float .f64 0, .float .f64 0], .bool false]) (by simp [results, Try.results20, go_sem]) rfl ⟨0, 0, by rw [unhide HO], by rw [unhide HE1]; exact .refl _ _, by rw [unhide HE2]; exact .refl _ _, ?_⟩
          repeat (first | exact bel3d _ _ _ _ | refine Below.setCell ?_ (by simp; try omega) _)
        | true =>
          cases kd : finB d with
          | false =>
            clear hs es eo hok
            go_wp2_with (go_at_call 29; refine (specFinite_any _ _).mono ?_; rintro e w9 ⟨rfl, n9, rfl⟩)
            refine bodyPost_ret (v := .tuple #[.agg #[.float .f64 0, .float .f64 0], .bool false]) (by simp [results, Try.results20, go_sem]) rfl ⟨0, 0, by rw [unhide HO], by rw [unhide HE1]; exact .refl _ _, by rw [unhide HE2]; exact .refl _ _, ?_⟩
            repeat (first | exact bel3d _ _ _ _ | refine Below.setCell ?_ (by simp; try omega) _)
          | true =>
            cases ks : finB (sq c d) with
            | false =>
              rw [ks] at es
              clear hs eo hok ks
              go_wp2_with (go_at_call 29; refine (specFinite_any _ _).mono ?_; rintro e w9 ⟨rfl, n9, rfl⟩)
              refine bodyPost_ret (v := .tuple #[.agg #[.float .f64 0, .float .f64 0], .bool false]) (by simp [results, Try.results20, go_sem]) rfl ⟨0, 0, by rw [unhide HO], by rw [unhide HE1]; exact .refl _ _, by rw [unhide HE2]; exact .refl _ _, ?_⟩
              repeat (first | exact bel3d _ _ _ _ | refine Below.setCell ?_ (by simp; try omega) _)
            | true =>
              have k0 : (FloatKind.f64.format.order (sq c d) 0 == some .eq) = true := by
                unfold okOver at hok
                rw [ka, kb, kc, kd, ks] at hok
                simpa using hok
              rw [ks] at es
              rw [← eo] at k0
              clear hs eo hok ks
              go_wp2_with (go_at_call 29; refine (specFinite_any _ _).mono ?_; rintro e w9 ⟨rfl, n9, rfl⟩)
              refine bodyPost_ret (v := .tuple #[.agg #[.float .f64 0, .float .f64 0], .bool false]) (by simp [results, Try.results20, go_sem]) rfl ⟨0, 0, by rw [unhide HO], by rw [unhide HE1]; exact .refl _ _, by rw [unhide HE2]; exact .refl _ _, ?_⟩
              repeat (first | exact bel3d _ _ _ _ | refine Below.setCell ?_ (by simp; try omega) _)

end Go.Proofs.Ythdadhebpcndeal
