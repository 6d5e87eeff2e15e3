/-
  The test of a grid, continued: the program's head, and the loop over the lists in the model and in the program.
-/
import Derived.Test.YtbaocifpifbldaaGrid
namespace Go.Proofs.Ytbaocifpifbldaa
open Go.RowKit

set_option maxHeartbeats 2000000 in
theorem implGridOk_head (a1 a2 a3 : Option Addr) (l1 c1 l2 c2 l3 c3 : Nat) (xs ys : List Int) (zss : List (List Int)) (w : World) (h1 : Row w a1 l1 xs) (h2 : Row w a2 l2 ys) (h3 : RowS w a3 l3 zss) (hh : gridHead xs ys l3 = false) :
    Calls Try.prog 17 #[.agg #[.slice a1 l1 c1, .slice a2 l2 c2, .slice a3 l3 c3]] w fun e w' => e = .returned (.bool (gridB xs ys zss)) ∧ Below w.heap.size w w' := by
  have H1 := hide (h1.alloc (.cells #[.slice a1 l1 c1, .slice a2 l2 c2, .slice a3 l3 c3] 39))
  have H2 := hide (h2.alloc (.cells #[.slice a1 l1 c1, .slice a2 l2 c2, .slice a3 l3 c3] 39))
  have H3 := hide (h3.alloc (.cells #[.slice a1 l1 c1, .slice a2 l2 c2, .slice a3 l3 c3] 39))
  have hl1 := h1.len_eq
  have hl2 := h2.len_eq
  have hl3 := h3.len_eq
  subst hl1
  subst hl2
  subst hl3
  clear h1 h2 h3
  have HE := hide (grid_head hh)
  have hh' := (gridHead_impl xs ys zss.length).symm.trans hh
  rcases three (axisB xs 1000) (axisB ys 1000) ((zss.length : Int) == (ys.length : Int)) with ⟨h, hv⟩ | ⟨h, h', hv⟩ | ⟨h, h', g6, hv⟩ | ⟨h, h', g6, hv⟩
  case inr.inr.inr => exact absurd (hh'.symm.trans hv) (by simp)
  all_goals
    clear hv hh hh'
    try (have hz : ((zss.length : Int) != (ys.length : Int)) = true := by rw [bne, g6]; rfl)
    go_enter Try.func17, Try.ntmps17
    go_wp2_with (first
      | (go_at_call_of 44 (Value.slice a1 xs.length c1); refine (axisOk_any _ _ _ xs _ _ (by first | exact unhide H1 | exact (unhide H1).drewN _) (by decide) (by decide)).mono ?_; rintro e w' ⟨rfl, n, rfl⟩)
      | (go_at_call_of 44 (Value.slice a2 ys.length c2); refine (axisOk_any _ _ _ ys _ _ (by first | exact unhide H2 | exact (unhide H2).drewN _) (by decide) (by decide)).mono ?_; rintro e w' ⟨rfl, n, rfl⟩))
    go_ret
    exact ⟨ret_bool (unhide HE).symm, by first | exact bel1 _ | exact bel1d _ _⟩

set_option maxHeartbeats 2000000 in
theorem implGridOk_rows (a1 a2 a3 : Option Addr) (l1 c1 l2 c2 l3 c3 : Nat) (xs ys : List Int) (zss : List (List Int)) (w : World) (h1 : Row w a1 l1 xs) (h2 : Row w a2 l2 ys) (h3 : RowS w a3 l3 zss) (hh : gridHead xs ys l3 = true) :
    Calls Try.prog 17 #[.agg #[.slice a1 l1 c1, .slice a2 l2 c2, .slice a3 l3 c3]] w fun e w' => e = .returned (.bool (gridB xs ys zss)) ∧ Below w.heap.size w w' := by
  have H1 := hide (h1.alloc (.cells #[.slice a1 l1 c1, .slice a2 l2 c2, .slice a3 l3 c3] 39))
  have H2 := hide (h2.alloc (.cells #[.slice a1 l1 c1, .slice a2 l2 c2, .slice a3 l3 c3] 39))
  have H3 := hide (h3.alloc (.cells #[.slice a1 l1 c1, .slice a2 l2 c2, .slice a3 l3 c3] 39))
  have hl1 := h1.len_eq
  have hl2 := h2.len_eq
  have hl3 := h3.len_eq
  subst hl1
  subst hl2
  subst hl3
  clear h1 h2 h3
  have HG := hide (grid_rows hh)
  have hh' := (gridHead_impl xs ys zss.length).symm.trans hh
  rcases three (axisB xs 1000) (axisB ys 1000) ((zss.length : Int) == (ys.length : Int)) with ⟨_, hv⟩ | ⟨_, _, hv⟩ | ⟨_, _, _, hv⟩ | ⟨h, h', g6, hv⟩
  case inl => exact absurd (hh'.symm.trans hv) (by simp)
  case inr.inl => exact absurd (hh'.symm.trans hv) (by simp)
  case inr.inr.inl => exact absurd (hh'.symm.trans hv) (by simp)
  clear hv hh'
  have hlenb : inB ys.length 2 20 = true := by have := h'; simp only [axisB, Bool.and_eq_true] at this; exact this.1.1
  have hz : ((zss.length : Int) != (ys.length : Int)) = false := by rw [bne, g6]; rfl
  have hzn : zss.length ≤ 20 := by
    have a := g6
    have b := hlenb
    simp only [inB, decide_eq_true_eq] at b
    simp at a
    omega
  clear hh g6 hlenb
  have x0 : (w.alloc (Obj.cells #[.slice a1 xs.length c1, .slice a2 ys.length c2, .slice a3 zss.length c3] 39)).cell? ⟨w.heap.size, 0, none⟩ = some (.slice a1 xs.length c1) := by simp [go_sem]
  have x2 : (w.alloc (Obj.cells #[.slice a1 xs.length c1, .slice a2 ys.length c2, .slice a3 zss.length c3] 39)).cell? ⟨w.heap.size, 2, none⟩ = some (.slice a3 zss.length c3) := by simp [go_sem]
  have BW := hide (bel1 (w := w) (Obj.cells #[.slice a1 xs.length c1, .slice a2 ys.length c2, .slice a3 zss.length c3] 39))
  have HO := hide (unhide H3).open_
  obtain ⟨W, hW⟩ : ∃ W, W = w.alloc (Obj.cells #[.slice a1 xs.length c1, .slice a2 ys.length c2, .slice a3 zss.length c3] 39) := ⟨_, rfl⟩
  go_enter Try.func17, Try.ntmps17
  go_wp2_with (first
      | (go_at_call_of 44 (Value.slice a1 xs.length c1); refine (axisOk_any _ _ _ xs _ _ (by first | exact unhide H1 | exact (unhide H1).drewN _) (by decide) (by decide)).mono ?_; rintro e w' ⟨rfl, n, rfl⟩)
      | (go_at_call_of 44 (Value.slice a2 ys.length c2); refine (axisOk_any _ _ _ ys _ _ (by first | exact unhide H2 | exact (unhide H2).drewN _) (by decide) (by decide)).mono ?_; rintro e w' ⟨rfl, n, rfl⟩))
  rw [← hW] at x0 x2 BW HO
  go_loopw [27] (fun i wr => ∃ k : Nat, k ≤ zss.length ∧ i = .int .i64 k ∧ Hid (∀ j, j < k → rowB xs.length (nthS zss j) = true) ∧ Below W.heap.size W wr) (fun i _ => zss.length - (intOf i).toNat)
  case atStart => exact ⟨0, by omega, rfl, (fun j hj => by omega), by rw [hW]; first | exact Below.refl _ _ | exact bel0d' _⟩
  case round =>
    obtain ⟨k, hk, rfl, hall, hbel⟩ := hrel
    have x0 := (hbel.cell (p := ⟨w.heap.size, 0, none⟩) (by simp [hW])).trans x0
    have x2 := (hbel.cell (p := ⟨w.heap.size, 2, none⟩) (by simp [hW])).trans x2
    have HB := hide hbel
    clear hbel
    by_cases hlt : k < zss.length
    · rcases (unhide HO) with ⟨h0, _⟩ | ⟨bb, off, rfl, _, hc⟩
      · simp [h0] at hlt
      obtain ⟨ai, li, ci, hcell, hrow, _⟩ := hc k hlt
      have hcell := ((unhide HB).cell (block_lt_of_cell hcell)).trans hcell
      have HR := hide (hrow.below (unhide HB))
      have hll := hrow.len_eq
      have hsm := hrow.small
      have HLL := hide hll
      have hi1 : (0 : Int) ≤ (k : Int) := by omega
      have hi2 : (k : Int) < (zss.length : Int) := by omega
      clear hc hrow hll
      by_cases hlen : li = xs.length
      · have hbb : ((li : Int) != (xs.length : Int)) = false := by simp [hlen]
        have HLE := hide hlen
        clear hlen
        cases hal : allB (nthS zss k) (-1000) 1000
        · have HRB : Hid (rowB xs.length (nthS zss k) = false) := hide (by simp [rowB, hal])
          go_wp2_with (go_at_call 45; refine (allWithin_any _ _ _ (nthS zss k) _ _ _ (unhide HR)).mono ?_; rintro e w' ⟨rfl, n, rfl⟩)
          go_ret
          exact ⟨ret_bool (by rw [unhide HG, rowsB_false hlt (unhide HRB)]), (unhide BW).trans ((below_drewN (unhide HB) _).mono (by simp [hW]))⟩
        · have HRB : Hid (rowB xs.length (nthS zss k) = true) := hide (by simp [rowB, hal, unhide HLL, unhide HLE])
          go_wp2_with (go_at_call 45; refine (allWithin_any _ _ _ (nthS zss k) _ _ _ (unhide HR)).mono ?_; rintro e w' ⟨rfl, n, rfl⟩)
          go_roundw
          case rel => exact ⟨k + 1, by omega, by go_num, (fun j hj => by rcases Nat.lt_succ_iff_lt_or_eq.1 hj with h | h; exact hall.out j h; subst h; exact unhide HRB), below_drewN (unhide HB) _⟩
          case measure => simp [intOf]; omega
      · have hbb : ((li : Int) != (xs.length : Int)) = true := by simp; omega
        have HRB : Hid (rowB xs.length (nthS zss k) = false) := hide (by simp [rowB, unhide HLL, hlen])
        go_wp2
        go_ret
        exact ⟨ret_bool (by rw [unhide HG, rowsB_false hlt (unhide HRB)]), (unhide BW).trans (Below.mono (by first | exact below_drewN (unhide HB) _ | exact unhide HB) (by simp [hW]))⟩
    · go_wp2
      go_ret
      exact ⟨ret_bool (by rw [unhide HG, rowsB_true fun j hj => hall.out j (by omega)]), (unhide BW).trans ((unhide HB).mono (by simp [hW]))⟩

end Go.Proofs.Ytbaocifpifbldaa
