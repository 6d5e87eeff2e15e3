/-
  What Poly answers in the program. No condition; nothing that was there is written.
-/
import Derived.Test.YtomcbbpaajpeiaaCxImpl
import Derived.Test.YtomcbbpaajpeiaaMSbIs
import Derived.Test.YtomcbbpaajpeiaaMCxPure
namespace Go.Proofs.Ytomcbbpaajpeiaa
open Go.RowKit
attribute [local go_sem] run_store_float run_store_complex

/-- The result's block R is as it was made. -/
structure ResSt (w wr : World) (R : Nat) : Prop where
  r0 : wr.cell? ⟨R, 0, none⟩ = some (.float .f64 0)
  r1 : wr.cell? ⟨R, 1, none⟩ = some (.float .f64 0)
  f0 : wr.frozen? ⟨R, 0, none⟩ = false
  f1 : wr.frozen? ⟨R, 1, none⟩ = false
  bel : Below w.heap.size w wr
theorem ResSt.call {w wr w3 : World} {R : Nat} (h : ResSt w wr R) (b3 : Below wr.heap.size wr w3) : ResSt w w3 R :=
  ⟨(b3.cell (block_lt_of_cell h.r0)).trans h.r0, (b3.cell (block_lt_of_cell h.r1)).trans h.r1, (b3.frozen (block_lt_of_cell h.r0)).trans h.f0, (b3.frozen (block_lt_of_cell h.r1)).trans h.f1, h.bel.trans (b3.mono h.bel.size)⟩

set_option maxHeartbeats 8000000 in
theorem implPoly_any (ad : Option Addr) (len cap : Nat) (ps : List (Nat × Nat)) (c d : Nat) (w : World) (hr : RowC w ad len ps) :
    Calls Try.prog 14 #[.slice ad len cap, .agg #[.float .f64 c, .float .f64 d]] w fun e w' => ∃ x y, e = .returned (.tuple #[.agg #[.float .f64 x, .float .f64 y], .bool (polyB ps)]) ∧ Alike .f64 x (polyX ps c d) ∧ Alike .f64 y (polyY ps c d) ∧ Below w.heap.size w w' := by
  have hz := hr.len_eq
  have hs := hr.small
  have HO := hide hr.open_
  clear hr
  subst hz
  obtain ⟨F, G, N, hrun, hF, hG⟩ := run_cadd_all (P := Try.prog) 50
  by_cases hlen : ps.length ≤ 12
  · have HN := hide (show polyB ps = true from decide_eq_true hlen)
    go_enter Try.func14, Try.ntmps14
    go_wp2_with fail
    refine (complexOf_any _ _ _).mono ?_
    rintro e w1 ⟨rfl, b1⟩
    obtain ⟨R, hR⟩ : ∃ R, R = w.heap.size + 1 := ⟨_, rfl⟩
    have HS0 : ResSt w w1 R := by
      subst hR
      refine ResSt.call (wr := (w.alloc (Obj.cells #[.float .f64 c, .float .f64 d] 31)).alloc (Obj.cells #[.float .f64 0, .float .f64 0] 31)) ⟨?_, ?_, ?_, ?_, bel2 _ _⟩ b1 <;> simp [go_sem]
    have lr : w.heap.size ≤ R := by omega
    rw [← hR]
    clear hR b1
    go_wp2_with fail
    go_loopw [6, 18] (fun v i wr => ∃ k x y, k ≤ ps.length ∧ i = .int .i64 (k : Nat) ∧ v = .complex .f64 x y ∧ Alike .f64 x (polyRe ps c d k).1 ∧ Alike .f64 y (polyRe ps c d k).2 ∧ ResSt w wr R) (fun _ i _ => ps.length - (intOf i).toNat)
    case atStart => exact ⟨0, 0, 0, Nat.zero_le _, rfl, rfl, .refl _ _, .refl _ _, HS0⟩
    case round =>
      obtain ⟨k, x, y, hk, rfl, rfl, ax, ay, hst⟩ := hrel
      have AX := hide ax
      have AY := hide ay
      clear ax ay
      by_cases hlt : k < ps.length
      · rcases (unhide HO) with ⟨h0, _⟩ | ⟨bb, off, rfl, _, hc⟩
        · omega
        obtain ⟨ca, cb⟩ := hc k hlt
        have ca := (hst.bel.cell (block_lt_of_cell ca)).trans ca
        have cb := (hst.bel.cell (block_lt_of_cell cb)).trans cb
        have hi1 : (0 : Int) ≤ (k : Int) := by omega
        have hi2 : (k : Int) < (ps.length : Int) := by omega
        have HST := hide hst
        clear hc hst HS0
        go_wp2
        obtain ⟨w2, hw2⟩ : ∃ w2, w2 = wr.alloc (Obj.cells #[.float .f64 (reAt ps k), .float .f64 (imAt ps k)] 31) := ⟨_, rfl⟩
        rw [← hw2]
        obtain ⟨r0, r1, f0, f1, bel⟩ : ResSt w w2 R := by rw [hw2]; exact (unhide HST).call (bel1 _)
        have s0 : w2.cell? ⟨wr.heap.size, 0, none⟩ = some (.float .f64 (reAt ps k)) := by rw [hw2]; simp [go_sem]
        have s1 : w2.cell? ⟨wr.heap.size, 1, none⟩ = some (.float .f64 (imAt ps k)) := by rw [hw2]; simp [go_sem]
        have B1 := hide bel
        clear bel hw2 ca cb
        go_region_with ((first
          | (go_at_call 22; refine (product_any _ _ _ _ _).mono ?_; rintro e w3 ⟨x1, y1, rfl, k1, k2, n3, rfl⟩)
          | (go_at_call 19; refine (complexOf_any _ _ _).mono ?_; rintro e w3 ⟨rfl, b3⟩; have f0 := (b3.frozen (block_lt_of_cell r0)).trans f0; have f1 := (b3.frozen (block_lt_of_cell r1)).trans f1; have r0 := (b3.cell (block_lt_of_cell r0)).trans r0; have r1 := (b3.cell (block_lt_of_cell r1)).trans r1; have s0 := (b3.cell (block_lt_of_cell s0)).trans s0; have s1 := (b3.cell (block_lt_of_cell s1)).trans s1; have B1 := hide (show Below w.heap.size w w3 from by first | exact (unhide B1).trans (b3.mono (unhide B1).size) | exact ((unhide B1).trans (bel0d' _)).trans (b3.mono (unhide B1).size)); clear b3)))
        all_goals (
          have HS3 := hide (show ResSt w w3 R from ⟨r0, r1, f0, f1, unhide B1⟩)
          go_wp2
          go_roundw
          case rel => exact ⟨k + 1, _, _, by omega, by go_num, rfl, poly_stepX (unhide AX) (unhide AY) k1 (hF _ _ _ _ _), poly_stepY (unhide AX) (unhide AY) k2 (hG _ _ _ _ _), (unhide HS3).call (bel0d _)⟩
          case measure => simp [intOf]; omega)
      · have hkk : k = ps.length := by omega
        subst hkk
        have HST := hide hst
        clear hst HS0
        go_wp2_with fail
        refine (cxOf_any _ _ _).mono ?_
        rintro e w3 ⟨rfl, b3⟩
        obtain ⟨r0, r1, f0, f1, bel⟩ := (unhide HST).call b3
        have B1 := hide bel
        clear bel b3
        go_wp2
        refine bodyPost_ret (v := .tuple #[.agg #[.float .f64 x, .float .f64 y], .bool true]) (by simp [results, Try.results14, go_sem, *]) rfl ⟨x, y, by rw [unhide HN], ?_, ?_, ((unhide B1).setCell lr _).setCell lr _⟩
        · unfold polyX
          rw [unhide HN]
          exact unhide AX
        · unfold polyY
          rw [unhide HN]
          exact unhide AY
  · have HN := hide (show polyB ps = false from decide_eq_false hlen)
    go_enter Try.func14, Try.ntmps14
    go_wp2
    refine bodyPost_ret (v := .tuple #[.agg #[.float .f64 0, .float .f64 0], .bool false]) (by simp [results, Try.results14, go_sem]) rfl ⟨0, 0, by rw [unhide HN], by unfold polyX; rw [unhide HN]; exact .refl _ _, by unfold polyY; rw [unhide HN]; exact .refl _ _, ?_⟩
    repeat (first | exact bel2 _ _ | refine Below.setCell ?_ (by simp; try omega) _)

end Go.Proofs.Ytomcbbpaajpeiaa
