/-
  What Poly answers in the specification. No condition; nothing that was there is written.
-/
import Derived.Test.YthdadhebpcndeamCxSpec
import Derived.Test.YthdadhebpcndeamPolyPure
import Derived.Deep.RegionHeld3
namespace Go.Proofs.Ythdadhebpcndeam
open Go.RowKit
attribute [local go_sem] run_store_float run_store_complex

/-- After k rounds: the argument in block Z, the result in block R, the variable in block V. -/
structure PolySt (w wr : World) (Z R V : Nat) (ps : List (Nat × Nat)) (c d k : Nat) (x y : Nat) : Prop where
  c2 : wr.cell? ⟨Z, 0, none⟩ = some (.float .f64 c)
  c3 : wr.cell? ⟨Z, 1, none⟩ = some (.float .f64 d)
  r0 : wr.cell? ⟨R, 0, none⟩ = some (.float .f64 0)
  r1 : wr.cell? ⟨R, 1, none⟩ = some (.float .f64 0)
  f0 : wr.frozen? ⟨R, 0, none⟩ = false
  f1 : wr.frozen? ⟨R, 1, none⟩ = false
  v0 : wr.cell? ⟨V, 0, none⟩ = some (.float .f64 x)
  v1 : wr.cell? ⟨V, 1, none⟩ = some (.float .f64 y)
  g0 : wr.frozen? ⟨V, 0, none⟩ = false
  g1 : wr.frozen? ⟨V, 1, none⟩ = false
  bel : Below w.heap.size w wr
  ax : Alike .f64 x (polyRe ps c d k).1
  ay : Alike .f64 y (polyRe ps c d k).2

theorem PolySt.set {w wr : World} {Z R V : Nat} {ps : List (Nat × Nat)} {c d k x y x2 y2 : Nat} (h : PolySt w wr Z R V ps c d k x y) (hw : w.heap.size ≤ V) (hz : Z ≠ V) (hr : R ≠ V) (ax : Alike .f64 x2 (polyRe ps c d (k + 1)).1) (ay : Alike .f64 y2 (polyRe ps c d (k + 1)).2) :
    PolySt w ((wr.setCell ⟨V, 0, none⟩ (.float .f64 x2)).setCell ⟨V, 1, none⟩ (.float .f64 y2)) Z R V ps c d (k + 1) x2 y2 := by
  have nz : ∀ i j, (⟨V, i, none⟩ : Addr) ≠ ⟨Z, j, none⟩ := fun i j e => hz (by injection e with e1; exact e1.symm)
  have nr : ∀ i j, (⟨V, i, none⟩ : Addr) ≠ ⟨R, j, none⟩ := fun i j e => hr (by injection e with e1; exact e1.symm)
  have nv : (⟨V, 1, none⟩ : Addr) ≠ ⟨V, 0, none⟩ := by simp
  have nv' : (⟨V, 0, none⟩ : Addr) ≠ ⟨V, 1, none⟩ := by simp
  refine ⟨?_, ?_, ?_, ?_, by simp [h.f0], by simp [h.f1], ?_, ?_, by simp [h.g0], by simp [h.g1], (h.bel.setCell hw _).setCell hw _, ax, ay⟩
  · rw [World.cell?_setCell_other _ _ _ _ (nz _ _), World.cell?_setCell_other _ _ _ _ (nz _ _)]; exact h.c2
  · rw [World.cell?_setCell_other _ _ _ _ (nz _ _), World.cell?_setCell_other _ _ _ _ (nz _ _)]; exact h.c3
  · rw [World.cell?_setCell_other _ _ _ _ (nr _ _), World.cell?_setCell_other _ _ _ _ (nr _ _)]; exact h.r0
  · rw [World.cell?_setCell_other _ _ _ _ (nr _ _), World.cell?_setCell_other _ _ _ _ (nr _ _)]; exact h.r1
  · rw [World.cell?_setCell_other _ _ _ _ nv]; exact World.cell?_setCell_same _ _ _ h.v0
  · refine World.cell?_setCell_same (u := .float .f64 y) _ _ _ ?_
    rw [World.cell?_setCell_other _ _ _ _ nv']; exact h.v1

set_option maxHeartbeats 8000000 in
theorem specPoly_any (ad : Option Addr) (len cap : Nat) (ps : List (Nat × Nat)) (c d : Nat) (w : World) (hr : RowC w ad len ps) :
    Calls Try.prog 9 #[.slice ad len cap, .agg #[.float .f64 c, .float .f64 d]] w fun e w' => ∃ x y, e = .returned (.tuple #[.agg #[.float .f64 x, .float .f64 y], .bool (polyB ps)]) ∧ Alike .f64 x (polyX ps c d) ∧ Alike .f64 y (polyY ps c d) ∧ Below w.heap.size w w' := by
  have hz := hr.len_eq
  have hs := hr.small
  have HO := hide hr.open_
  clear hr
  subst hz
  by_cases hlen : ps.length ≤ 12
  · have HN := hide (show polyB ps = true from decide_eq_true hlen)
    go_enter Try.func9, Try.ntmps9
    go_wp2
    obtain ⟨R, hR⟩ : ∃ R, R = w.heap.size + 1 := ⟨_, rfl⟩
    obtain ⟨V, hV⟩ : ∃ V, V = w.heap.size + 1 + 1 := ⟨_, rfl⟩
    rw [← hV, ← hR]
    obtain ⟨w1, hw1⟩ : ∃ w1, w1 = (((w.alloc (Obj.cells #[.float .f64 c, .float .f64 d] 27)).alloc (Obj.cells #[.float .f64 0, .float .f64 0] 27)).alloc (Obj.cells #[.float .f64 0, .float .f64 0] 27)) := ⟨_, rfl⟩
    have HS0 : PolySt w w1 w.heap.size R V ps c d 0 0 0 := by
      subst hw1 hR hV
      refine ⟨?_, ?_, ?_, ?_, ?_, ?_, ?_, ?_, ?_, ?_, bel3 _ _ _, .refl _ _, .refl _ _⟩ <;> simp [go_sem]
    have hwV : w.heap.size ≤ V := by omega
    have nzV : w.heap.size ≠ V := by omega
    have nrV : R ≠ V := by omega
    have lr : w.heap.size ≤ R := by omega
    first | rw [← hw1] | skip
    clear hR hV
    go_loopw [7] (fun i wr => ∃ k x y, k ≤ ps.length ∧ i = .int .i64 (k : Nat) ∧ PolySt w wr w.heap.size R V ps c d k x y) (fun i _ => ps.length - (intOf i).toNat)
    case atStart => exact ⟨0, 0, 0, Nat.zero_le _, rfl, HS0⟩
    case round =>
      obtain ⟨k, x, y, hk, rfl, hst⟩ := hrel
      by_cases hlt : k < ps.length
      · rcases (unhide HO) with ⟨h0, _⟩ | ⟨bb, off, rfl, _, hc⟩
        · omega
        have HB := hst.bel
        obtain ⟨ca, cb⟩ := hc k hlt
        have nb : ¬ (V = bb) := by have := block_lt_of_cell ca; simp at this; omega
        have nb' : ¬ (bb = V) := fun e => nb e.symm
        have ca := (HB.cell (block_lt_of_cell ca)).trans ca
        have cb := (HB.cell (block_lt_of_cell cb)).trans cb
        have hi1 : (0 : Int) ≤ (k : Int) := by omega
        have hi2 : (k : Int) < (ps.length : Int) := by omega
        have HST := hide hst
        obtain ⟨c2, c3, r0, r1, f0, f1, v0, v1, g0, g1, _, _, _⟩ := hst
        have B1 := hide HB
        clear hc HB HS0
        go_wp2
        go_region_with ((first
          | (go_at_call 29; refine (specCxTimes_any _ _ _ _ _).mono ?_; rintro e w3 ⟨x1, y1, rfl, k1, k2, b3⟩; have g0 := (b3.frozen (block_lt_of_cell v0)).trans g0; have g1 := (b3.frozen (block_lt_of_cell v1)).trans g1; have f0 := (b3.frozen (block_lt_of_cell r0)).trans f0; have f1 := (b3.frozen (block_lt_of_cell r1)).trans f1; have v0 := (b3.cell (block_lt_of_cell v0)).trans v0; have v1 := (b3.cell (block_lt_of_cell v1)).trans v1; have c2 := (b3.cell (block_lt_of_cell c2)).trans c2; have c3 := (b3.cell (block_lt_of_cell c3)).trans c3; have ca := (b3.cell (block_lt_of_cell ca)).trans ca; have cb := (b3.cell (block_lt_of_cell cb)).trans cb; have r0 := (b3.cell (block_lt_of_cell r0)).trans r0; have r1 := (b3.cell (block_lt_of_cell r1)).trans r1; have B1 := hide (show Below w.heap.size w w3 from by first | exact (unhide B1).trans (b3.mono (unhide B1).size) | exact ((unhide B1).trans (bel0d' _)).trans (b3.mono (unhide B1).size)); clear b3)
          | (go_at_call 28; refine (specCxAdd_any _ _ _ _ _).mono ?_; rintro e w3 ⟨x2, y2, rfl, k3, k4, b3⟩; have g0 := (b3.frozen (block_lt_of_cell v0)).trans g0; have g1 := (b3.frozen (block_lt_of_cell v1)).trans g1; have f0 := (b3.frozen (block_lt_of_cell r0)).trans f0; have f1 := (b3.frozen (block_lt_of_cell r1)).trans f1; have v0 := (b3.cell (block_lt_of_cell v0)).trans v0; have v1 := (b3.cell (block_lt_of_cell v1)).trans v1; have c2 := (b3.cell (block_lt_of_cell c2)).trans c2; have c3 := (b3.cell (block_lt_of_cell c3)).trans c3; have ca := (b3.cell (block_lt_of_cell ca)).trans ca; have cb := (b3.cell (block_lt_of_cell cb)).trans cb; have r0 := (b3.cell (block_lt_of_cell r0)).trans r0; have r1 := (b3.cell (block_lt_of_cell r1)).trans r1; have B1 := hide (show Below w.heap.size w w3 from by first | exact (unhide B1).trans (b3.mono (unhide B1).size) | exact ((unhide B1).trans (bel0d' _)).trans (b3.mono (unhide B1).size)); clear b3)))
        all_goals (
          have HS3 := hide ((show PolySt w w3 w.heap.size R V ps c d k x y from ⟨c2, c3, r0, r1, f0, f1, v0, v1, g0, g1, unhide B1, (unhide HST).ax, (unhide HST).ay⟩).set hwV nzV nrV (poly_step (unhide HST).ax (unhide HST).ay k1 k2 k3 k4).1 (poly_step (unhide HST).ax (unhide HST).ay k1 k2 k3 k4).2)
          go_wp2
          go_roundw
          case rel => exact ⟨k + 1, x2, y2, by omega, by go_num, unhide HS3⟩
          case measure => simp [intOf]; omega)
      · have hkk : k = ps.length := by omega
        subst hkk
        obtain ⟨c2, c3, r0, r1, f0, f1, v0, v1, g0, g1, bel, ax, ay⟩ := hst
        have B1 := hide bel
        have AX := hide ax
        have AY := hide ay
        clear bel ax ay HS0
        go_wp2
        refine bodyPost_ret (v := .tuple #[.agg #[.float .f64 x, .float .f64 y], .bool true]) (by simp [results, Try.results9, go_sem, *]) rfl ⟨x, y, by rw [unhide HN], ?_, ?_, ((unhide B1).setCell lr _).setCell lr _⟩
        · unfold polyX
          rw [unhide HN]
          exact unhide AX
        · unfold polyY
          rw [unhide HN]
          exact unhide AY
  · have HN := hide (show polyB ps = false from decide_eq_false hlen)
    go_enter Try.func9, Try.ntmps9
    go_wp2
    refine bodyPost_ret (v := .tuple #[.agg #[.float .f64 0, .float .f64 0], .bool false]) (by simp [results, Try.results9, go_sem]) rfl ⟨0, 0, by rw [unhide HN], by unfold polyX; rw [unhide HN]; exact .refl _ _, by unfold polyY; rw [unhide HN]; exact .refl _ _, ?_⟩
    repeat (first | exact bel3 _ _ _ | refine Below.setCell ?_ (by simp; try omega) _)

end Go.Proofs.Ythdadhebpcndeam
