/-
  The test of an envelope in the program: the plain test at every envelope; nothing that was there is written.
-/
import Derived.Test.YtbaocifpifbldaaEnvPure
import Derived.Test.YtbaocifpifbldaaSmall
namespace Go.Proofs.Ytbaocifpifbldaa
open Go.RowKit

set_option maxHeartbeats 2000000 in
theorem implEnvelopeOk_head (a1 a2 a3 : Option Addr) (l1 c1 l2 c2 l3 c3 : Nat) (ms fs gs : List Int) (w : World) (h1 : Row w a1 l1 ms) (h2 : Row w a2 l2 fs) (h3 : Row w a3 l3 gs) (hh : envHead ms fs gs = false) :
    Calls Try.prog 26 #[.agg #[.slice a1 l1 c1, .slice a2 l2 c2, .slice a3 l3 c3]] w fun e w' => e = .returned (.bool (envB ms fs gs)) ∧ Below w.heap.size w w' := by
  have hl1 := h1.len_eq
  have hl2 := h2.len_eq
  have hl3 := h3.len_eq
  subst hl1
  subst hl2
  subst hl3
  clear h1 h2 h3
  have HE := hide (env_head hh)
  rcases three (inB ms.length 2 10) ((fs.length : Int) == (ms.length : Int)) ((gs.length : Int) == (ms.length : Int)) with ⟨h, hv⟩ | ⟨h, g1, hv⟩ | ⟨h, g1, g2, hv⟩ | ⟨h, g1, g2, hv⟩
  case inr.inr.inr => exact absurd (hh.symm.trans hv) (by simp)
  all_goals
    clear hv hh
    try (have hz : ((fs.length : Int) != (ms.length : Int)) = true := by rw [bne, g1]; rfl)
    try (have hz : ((fs.length : Int) != (ms.length : Int)) = false := by rw [bne, g1]; rfl)
    try (have hz2 : ((gs.length : Int) != (ms.length : Int)) = true := by rw [bne, g2]; rfl)
    try clear g1
    try clear g2
    go_enter Try.func26, Try.ntmps26
    go_wp2_with (go_at_call 52; refine (within_any _ _ _ _).mono ?_; rintro e w' ⟨rfl, hw⟩; subst w')
    go_ret
    exact ⟨ret_bool (unhide HE).symm, by first | exact bel1 _ | exact bel1d _ _⟩

set_option maxHeartbeats 2000000 in
theorem implEnvelopeOk_rest (a1 a2 a3 : Option Addr) (l1 c1 l2 c2 l3 c3 : Nat) (ms fs gs : List Int) (w : World) (h1 : Row w a1 l1 ms) (h2 : Row w a2 l2 fs) (h3 : Row w a3 l3 gs) (hh : envHead ms fs gs = true) :
    Calls Try.prog 26 #[.agg #[.slice a1 l1 c1, .slice a2 l2 c2, .slice a3 l3 c3]] w fun e w' => e = .returned (.bool (envB ms fs gs)) ∧ Below w.heap.size w w' := by
  have H1 := hide (h1.alloc (.cells #[.slice a1 l1 c1, .slice a2 l2 c2, .slice a3 l3 c3] 58))
  have H2 := hide (h2.alloc (.cells #[.slice a1 l1 c1, .slice a2 l2 c2, .slice a3 l3 c3] 58))
  have H3 := hide (h3.alloc (.cells #[.slice a1 l1 c1, .slice a2 l2 c2, .slice a3 l3 c3] 58))
  have hl1 := h1.len_eq
  have hl2 := h2.len_eq
  have hl3 := h3.len_eq
  subst hl1
  subst hl2
  subst hl3
  clear h1 h2 h3
  have HH := hide hh
  have hall : inB ms.length 2 10 = true ∧ ((fs.length : Int) == (ms.length : Int)) = true ∧ ((gs.length : Int) == (ms.length : Int)) = true := by
    simp only [envHead, Bool.and_eq_true] at hh; obtain ⟨⟨p1, p2⟩, p3⟩ := hh; exact ⟨p1, p2, p3⟩
  obtain ⟨h, g1, g2⟩ := hall
  have hz : ((fs.length : Int) != (ms.length : Int)) = false := by rw [bne, g1]; rfl
  have hz2 : ((gs.length : Int) != (ms.length : Int)) = false := by rw [bne, g2]; rfl
  have hn := in_facts h
  have hf1 : fs.length ≤ ms.length := by simp at g1; omega
  have hf2 : ms.length ≤ fs.length := by simp at g1; omega
  have ha1 : gs.length ≤ ms.length := by simp at g2; omega
  have ha2 : ms.length ≤ gs.length := by simp at g2; omega
  clear hh g1 g2
  have x0 : (w.alloc (Obj.cells #[.slice a1 ms.length c1, .slice a2 fs.length c2, .slice a3 gs.length c3] 58)).cell? ⟨w.heap.size, 0, none⟩ = some (.slice a1 ms.length c1) := by simp [go_sem]
  have x1 : (w.alloc (Obj.cells #[.slice a1 ms.length c1, .slice a2 fs.length c2, .slice a3 gs.length c3] 58)).cell? ⟨w.heap.size, 1, none⟩ = some (.slice a2 fs.length c2) := by simp [go_sem]
  have x2 : (w.alloc (Obj.cells #[.slice a1 ms.length c1, .slice a2 fs.length c2, .slice a3 gs.length c3] 58)).cell? ⟨w.heap.size, 2, none⟩ = some (.slice a3 gs.length c3) := by simp [go_sem]
  have BW := hide (bel1 (w := w) (Obj.cells #[.slice a1 ms.length c1, .slice a2 fs.length c2, .slice a3 gs.length c3] 58))
  have HO2 := hide (unhide H2).open_
  have HO3 := hide (unhide H3).open_
  obtain ⟨W, hW⟩ : ∃ W, W = w.alloc (Obj.cells #[.slice a1 ms.length c1, .slice a2 fs.length c2, .slice a3 gs.length c3] 58) := ⟨_, rfl⟩
  go_enter Try.func26, Try.ntmps26
  go_wp2_with (go_at_call 52; refine (within_any _ _ _ _).mono ?_; rintro e w' ⟨rfl, hw⟩; subst w')
  rw [← hW] at x0 x1 x2 BW HO2 HO3 H1 H2 H3
  clear h hz hz2
  go_loopw [30] (fun i wr => ∃ k : Nat, k ≤ fs.length ∧ i = .int .i64 k ∧ Hid (∀ j, j < k → nth fs j ≤ nth gs j) ∧ Below W.heap.size W wr) (fun i _ => fs.length - (intOf i).toNat)
  case atStart => exact ⟨0, by omega, rfl, (fun j hj => by omega), by rw [hW]; first | exact Below.refl _ _ | exact bel0d' _⟩
  case round =>
    obtain ⟨k, hk, rfl, hall, hbel⟩ := hrel
    have x0 := (hbel.cell (p := ⟨w.heap.size, 0, none⟩) (by simp [hW])).trans x0
    have x1 := (hbel.cell (p := ⟨w.heap.size, 1, none⟩) (by simp [hW])).trans x1
    have x2 := (hbel.cell (p := ⟨w.heap.size, 2, none⟩) (by simp [hW])).trans x2
    have HB := hide hbel
    clear hbel
    by_cases hlt : k < fs.length
    · rcases (unhide HO2) with ⟨h0, _⟩ | ⟨bb, off, rfl, _, hc⟩
      · omega
      rcases (unhide HO3) with ⟨h0, _⟩ | ⟨bb2, off2, rfl, _, hc2⟩
      · omega
      have hcell := hc k (by omega)
      have hcell := ((unhide HB).cell (block_lt_of_cell hcell)).trans hcell
      have hcell2 := hc2 k (by omega)
      have hcell2 := ((unhide HB).cell (block_lt_of_cell hcell2)).trans hcell2
      have hi1 : (0 : Int) ≤ (k : Int) := by omega
      have hi2 : (k : Int) < (fs.length : Int) := by omega
      have hi3 : (k : Int) < (gs.length : Int) := by omega
      clear hc hc2
      by_cases hle : nth fs k ≤ nth gs k
      · go_wp2
        go_quiet (fail)
        go_wp2
        go_roundw
        case rel => exact ⟨k + 1, by omega, by go_num, (fun j hj => by rcases Nat.lt_succ_iff_lt_or_eq.1 hj with h | h; exact hall.out j h; subst h; exact hle), (unhide HB).trans (bel0d' _)⟩
        case measure => simp [intOf]; omega
      · go_wp2
        go_quiet (fail)
        go_wp2
        go_ret
        exact ⟨ret_bool (by rw [env_le (leB_false (j := k) (by omega) (by omega))]), (unhide BW).trans ((((unhide HB).trans (bel0d' _))).mono (by simp [hW]))⟩
    · have HG := hide (env_tail (unhide HH) (leB_true fun j hj => hall.out j (by omega)))
      have R1 := hide ((unhide H1).below (unhide HB))
      have R2 := hide ((unhide H2).below (unhide HB))
      have R3 := hide ((unhide H3).below (unhide HB))
      rcases four (riseB ms) (allB ms 0 400000) (allB fs (-1000) 1000) (allB gs (-1000) 1000) with ⟨g3, hv⟩ | ⟨g3, g4, hv⟩ | ⟨g3, g4, g5, hv⟩ | ⟨g3, g4, g5, g6, hv⟩ | ⟨g3, g4, g5, g6, hv⟩
      all_goals
        have HV := hide hv
        clear hv
        go_wp2_with (first
          | (go_at_call 53; refine (ascending_any _ _ _ ms _ (by first | exact unhide R1 | exact (unhide R1).drewN _)).mono ?_; rintro e w' ⟨rfl, n, rfl⟩)
          | (go_at_call_of 45 (Value.slice a1 ms.length c1); refine (allWithin_any _ _ _ ms _ _ _ (by first | exact unhide R1 | exact (unhide R1).drewN _)).mono ?_; rintro e w' ⟨rfl, n, rfl⟩)
          | (go_at_call_of 45 (Value.slice a2 fs.length c2); refine (allWithin_any _ _ _ fs _ _ _ (by first | exact unhide R2 | exact (unhide R2).drewN _)).mono ?_; rintro e w' ⟨rfl, n, rfl⟩)
          | (go_at_call_of 45 (Value.slice a3 gs.length c3); refine (allWithin_any _ _ _ gs _ _ _ (by first | exact unhide R3 | exact (unhide R3).drewN _)).mono ?_; rintro e w' ⟨rfl, n, rfl⟩))
        go_ret
        exact ⟨ret_bool ((unhide HG).trans (unhide HV)).symm, (unhide BW).trans ((((unhide HB).trans (bel0d' _))).mono (by simp [hW]))⟩

theorem implEnvelopeOk_any (a1 a2 a3 : Option Addr) (l1 c1 l2 c2 l3 c3 : Nat) (ms fs gs : List Int) (w : World) (h1 : Row w a1 l1 ms) (h2 : Row w a2 l2 fs) (h3 : Row w a3 l3 gs) :
    Calls Try.prog 26 #[.agg #[.slice a1 l1 c1, .slice a2 l2 c2, .slice a3 l3 c3]] w fun e w' => e = .returned (.bool (envB ms fs gs)) ∧ Below w.heap.size w w' := by
  cases hh : envHead ms fs gs
  · exact implEnvelopeOk_head a1 a2 a3 l1 c1 l2 c2 l3 c3 ms fs gs w h1 h2 h3 hh
  · exact implEnvelopeOk_rest a1 a2 a3 l1 c1 l2 c2 l3 c3 ms fs gs w h1 h2 h3 hh
theorem implEnvelopeOk_is {c : Bool} (a1 a2 a3 : Option Addr) (l1 c1 l2 c2 l3 c3 : Nat) (ms fs gs : List Int) (w : World) (hc : envB ms fs gs = c) (h1 : Row w a1 l1 ms) (h2 : Row w a2 l2 fs) (h3 : Row w a3 l3 gs) :
    Calls Try.prog 26 #[.agg #[.slice a1 l1 c1, .slice a2 l2 c2, .slice a3 l3 c3]] w fun e w' => e = .returned (.bool c) ∧ Below w.heap.size w w' := by
  subst hc; exact implEnvelopeOk_any a1 a2 a3 l1 c1 l2 c2 l3 c3 ms fs gs w h1 h2 h3

end Go.Proofs.Ytbaocifpifbldaa
