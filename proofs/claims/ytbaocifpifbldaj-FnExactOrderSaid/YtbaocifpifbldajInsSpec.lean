/-
  What Inside answers in the model: the plain test at every envelope and sum; nothing that was there is written.
-/
import Derived.Test.YtbaocifpifbldajInsPure
import Derived.Test.YtbaocifpifbldajEnvSpec
import Derived.Test.YtbaocifpifbldajLow
import Derived.Test.YtbaocifpifbldajBel
namespace Go.Proofs.Ytbaocifpifbldaj
open Go.RowKit

set_option maxHeartbeats 1000000 in
theorem specInside_no (a1 a2 a3 : Option Addr) (l1 c1 l2 c2 l3 c3 : Nat) (ms fs gs : List Int) (m q : Int) (w : World) (h1 : Row w a1 l1 ms) (h2 : Row w a2 l2 fs) (h3 : Row w a3 l3 gs) (hc : envB ms fs gs = false) :
    Calls Try.prog 14 #[.agg #[.slice a1 l1 c1, .slice a2 l2 c2, .slice a3 l3 c3], .agg #[.int .i64 m, .int .i64 q]] w fun e w' => e = .returned (.bool false) ∧ Below w.heap.size w w' := by
  have B0 := hide (bel2 (w := w) (.cells #[.slice a1 l1 c1, .slice a2 l2 c2, .slice a3 l3 c3] 27) (.cells #[.int .i64 m, .int .i64 q] 34))
  have H1 := hide (h1.below (unhide B0))
  have H2 := hide (h2.below (unhide B0))
  have H3 := hide (h3.below (unhide B0))
  clear h1 h2 h3
  obtain ⟨ι, f, hne, hb, hall⟩ := belClass ((w.alloc (.cells #[.slice a1 l1 c1, .slice a2 l2 c2, .slice a3 l3 c3] 27)).alloc (.cells #[.int .i64 m, .int .i64 q] 34))
  have x0 : ∀ x, (f x).cell? ⟨w.heap.size, 0, none⟩ = some (.slice a1 l1 c1) := fun x => ((hb x).cell (p := ⟨w.heap.size, 0, none⟩) (by simp; omega)).trans (by simp [go_sem])
  have x1 : ∀ x, (f x).cell? ⟨w.heap.size, 1, none⟩ = some (.slice a2 l2 c2) := fun x => ((hb x).cell (p := ⟨w.heap.size, 1, none⟩) (by simp; omega)).trans (by simp [go_sem])
  have x2 : ∀ x, (f x).cell? ⟨w.heap.size, 2, none⟩ = some (.slice a3 l3 c3) := fun x => ((hb x).cell (p := ⟨w.heap.size, 2, none⟩) (by simp; omega)).trans (by simp [go_sem])
  have HB := hide hb
  have HA := hide hall
  clear hb hall
  go_enter Try.func14, Try.ntmps14
  go_wp2_with fail
  refine wp_region_bel (unhide HA) (by kernel_rfl) (by kernel_rfl) ?_
  repeat (go_big_quiet_step ((go_at_call 10; exact belQ (unhide HB) (unhide HA) (specEnvelopeOk_is _ _ _ _ _ _ _ _ _ ms fs gs _ hc ((unhide H1).below (unhide HB _)) ((unhide H2).below (unhide HB _)) ((unhide H3).below (unhide HB _))))))
  refine wpQuiet_nil ?_
  rintro _ ⟨x, rfl⟩
  go_wp2
  go_ret
  exact ⟨rfl, (unhide B0).trans ((unhide HB x).mono (by simp; omega))⟩

set_option maxHeartbeats 2000000 in
theorem specInside_low (a1 a2 a3 : Option Addr) (l1 c1 l2 c2 l3 c3 : Nat) (ms fs gs : List Int) (m q : Int) (w : World) (h1 : Row w a1 l1 ms) (h2 : Row w a2 l2 fs) (h3 : Row w a3 l3 gs) (hc : envB ms fs gs = true) (hm : ¬ 1 ≤ m) :
    Calls Try.prog 14 #[.agg #[.slice a1 l1 c1, .slice a2 l2 c2, .slice a3 l3 c3], .agg #[.int .i64 m, .int .i64 q]] w fun e w' => e = .returned (.bool false) ∧ Below w.heap.size w w' := by
  have F := envB_facts hc
  have hn := F.many
  have HF := hide F
  have hf1 : fs.length ≤ ms.length := by have := F.lf; omega
  have hf2 : ms.length ≤ fs.length := by have := F.lf; omega
  have ha1 : gs.length ≤ ms.length := by have := F.la; omega
  have ha2 : ms.length ≤ gs.length := by have := F.la; omega
  clear F
  have hl1 := h1.len_eq
  have hl2 := h2.len_eq
  have hl3 := h3.len_eq
  subst hl1
  subst hl2
  subst hl3
  rcases h1.open_ with ⟨h0, _⟩ | ⟨bb1, off1, rfl, _, hcm⟩
  · omega
  rcases h2.open_ with ⟨h0, _⟩ | ⟨bb2, off2, rfl, _, hcf⟩
  · omega
  rcases h3.open_ with ⟨h0, _⟩ | ⟨bb3, off3, rfl, _, hcg⟩
  · omega
  have B0 := hide (bel2 (w := w) (.cells #[.slice (some ⟨bb1, off1, none⟩) ms.length c1, .slice (some ⟨bb2, off2, none⟩) fs.length c2, .slice (some ⟨bb3, off3, none⟩) gs.length c3] 27) (.cells #[.int .i64 m, .int .i64 q] 34))
  have H1 := hide (h1.below (unhide B0))
  have H2 := hide (h2.below (unhide B0))
  have H3 := hide (h3.below (unhide B0))
  clear h1 h2 h3
  obtain ⟨ι, f, hne, hb, hall⟩ := belClass ((w.alloc (.cells #[.slice (some ⟨bb1, off1, none⟩) ms.length c1, .slice (some ⟨bb2, off2, none⟩) fs.length c2, .slice (some ⟨bb3, off3, none⟩) gs.length c3] 27)).alloc (.cells #[.int .i64 m, .int .i64 q] 34))
  have x0 : ∀ x, (f x).cell? ⟨w.heap.size, 0, none⟩ = some (.slice (some ⟨bb1, off1, none⟩) ms.length c1) := fun x => ((hb x).cell (p := ⟨w.heap.size, 0, none⟩) (by simp; omega)).trans (by simp [go_sem])
  have x1 : ∀ x, (f x).cell? ⟨w.heap.size, 1, none⟩ = some (.slice (some ⟨bb2, off2, none⟩) fs.length c2) := fun x => ((hb x).cell (p := ⟨w.heap.size, 1, none⟩) (by simp; omega)).trans (by simp [go_sem])
  have x2 : ∀ x, (f x).cell? ⟨w.heap.size, 2, none⟩ = some (.slice (some ⟨bb3, off3, none⟩) gs.length c3) := fun x => ((hb x).cell (p := ⟨w.heap.size, 2, none⟩) (by simp; omega)).trans (by simp [go_sem])
  have y0 : ∀ x, (f x).cell? ⟨w.heap.size + 1, 0, none⟩ = some (.int .i64 m) := fun x => ((hb x).cell (p := ⟨w.heap.size + 1, 0, none⟩) (by simp)).trans (by simp [go_sem])
  have y1 : ∀ x, (f x).cell? ⟨w.heap.size + 1, 1, none⟩ = some (.int .i64 q) := fun x => ((hb x).cell (p := ⟨w.heap.size + 1, 1, none⟩) (by simp)).trans (by simp [go_sem])
  have hcm' : ∀ i, i < ms.length → ∀ x, (f x).cell? ⟨bb1, off1 + i, none⟩ = some (.int .i64 (nth ms i)) := fun i hi x => ((hb x).cell (p := ⟨bb1, off1 + i, none⟩) (by have := block_lt_of_cell (hcm i hi); simp at this ⊢; omega)).trans (((unhide B0).cell (block_lt_of_cell (hcm i hi))).trans (hcm i hi))
  have hcf' : ∀ i, i < fs.length → ∀ x, (f x).cell? ⟨bb2, off2 + i, none⟩ = some (.int .i64 (nth fs i)) := fun i hi x => ((hb x).cell (p := ⟨bb2, off2 + i, none⟩) (by have := block_lt_of_cell (hcf i hi); simp at this ⊢; omega)).trans (((unhide B0).cell (block_lt_of_cell (hcf i hi))).trans (hcf i hi))
  have hcg' : ∀ i, i < gs.length → ∀ x, (f x).cell? ⟨bb3, off3 + i, none⟩ = some (.int .i64 (nth gs i)) := fun i hi x => ((hb x).cell (p := ⟨bb3, off3 + i, none⟩) (by have := block_lt_of_cell (hcg i hi); simp at this ⊢; omega)).trans (((unhide B0).cell (block_lt_of_cell (hcg i hi))).trans (hcg i hi))
  have g0 := hcm' 0 (by omega)
  have g1 := hcm' (ms.length - 1) (by omega)
  simp only [Nat.add_zero] at g0
  have HCM := hide hcm'
  have HCF := hide hcf'
  have HCG := hide hcg'
  have HB := hide hb
  have HA := hide hall
  have hi0 : (0 : Int) < (ms.length : Int) := by omega
  have hwr : IntKind.i64.wrap ((ms.length : Int) - 1) = (ms.length : Int) - 1 := by rw [IntKind.wrap_i64]; omega
  have hj0 : (0 : Int) ≤ (ms.length : Int) - 1 := by omega
  have hj1 : (ms.length : Int) - 1 < (ms.length : Int) := by omega
  have hjt : ((ms.length : Int) - 1).toNat = ms.length - 1 := by omega
  clear hb hall hcm hcf hcg hcm' hcf' hcg'
  go_enter Try.func14, Try.ntmps14
  go_wp2_with fail
  have hmm : m < 1 := by omega
  refine wp_region_bel (unhide HA) (by kernel_rfl) (by kernel_rfl) ?_
  repeat (go_big_quiet_step (first
    | (go_at_call 10; exact belQ (unhide HB) (unhide HA) (specEnvelopeOk_is _ _ _ _ _ _ _ _ _ ms fs gs _ hc ((unhide H1).below (unhide HB _)) ((unhide H2).below (unhide HB _)) ((unhide H3).below (unhide HB _))))
    | (go_at_call 38; exact belS (l1In_is _ _ _ _ hc))))
  refine wpQuiet_nil ?_
  rintro _ ⟨x, rfl⟩
  go_wp2
  go_ret
  exact ⟨rfl, (unhide B0).trans ((unhide HB x).mono (by simp; omega))⟩

set_option maxHeartbeats 2000000 in
theorem specInside_out (a1 a2 a3 : Option Addr) (l1 c1 l2 c2 l3 c3 : Nat) (ms fs gs : List Int) (m q : Int) (w : World) (h1 : Row w a1 l1 ms) (h2 : Row w a2 l2 fs) (h3 : Row w a3 l3 gs) (hc : envB ms fs gs = true) (hm : 1 ≤ m) (hin : inB m (nth ms 0) (nth ms (ms.length - 1)) = false) :
    Calls Try.prog 14 #[.agg #[.slice a1 l1 c1, .slice a2 l2 c2, .slice a3 l3 c3], .agg #[.int .i64 m, .int .i64 q]] w fun e w' => e = .returned (.bool false) ∧ Below w.heap.size w w' := by
  have F := envB_facts hc
  have hn := F.many
  have HF := hide F
  have hf1 : fs.length ≤ ms.length := by have := F.lf; omega
  have hf2 : ms.length ≤ fs.length := by have := F.lf; omega
  have ha1 : gs.length ≤ ms.length := by have := F.la; omega
  have ha2 : ms.length ≤ gs.length := by have := F.la; omega
  clear F
  have hl1 := h1.len_eq
  have hl2 := h2.len_eq
  have hl3 := h3.len_eq
  subst hl1
  subst hl2
  subst hl3
  rcases h1.open_ with ⟨h0, _⟩ | ⟨bb1, off1, rfl, _, hcm⟩
  · omega
  rcases h2.open_ with ⟨h0, _⟩ | ⟨bb2, off2, rfl, _, hcf⟩
  · omega
  rcases h3.open_ with ⟨h0, _⟩ | ⟨bb3, off3, rfl, _, hcg⟩
  · omega
  have B0 := hide (bel2 (w := w) (.cells #[.slice (some ⟨bb1, off1, none⟩) ms.length c1, .slice (some ⟨bb2, off2, none⟩) fs.length c2, .slice (some ⟨bb3, off3, none⟩) gs.length c3] 27) (.cells #[.int .i64 m, .int .i64 q] 34))
  have H1 := hide (h1.below (unhide B0))
  have H2 := hide (h2.below (unhide B0))
  have H3 := hide (h3.below (unhide B0))
  clear h1 h2 h3
  obtain ⟨ι, f, hne, hb, hall⟩ := belClass ((w.alloc (.cells #[.slice (some ⟨bb1, off1, none⟩) ms.length c1, .slice (some ⟨bb2, off2, none⟩) fs.length c2, .slice (some ⟨bb3, off3, none⟩) gs.length c3] 27)).alloc (.cells #[.int .i64 m, .int .i64 q] 34))
  have x0 : ∀ x, (f x).cell? ⟨w.heap.size, 0, none⟩ = some (.slice (some ⟨bb1, off1, none⟩) ms.length c1) := fun x => ((hb x).cell (p := ⟨w.heap.size, 0, none⟩) (by simp; omega)).trans (by simp [go_sem])
  have x1 : ∀ x, (f x).cell? ⟨w.heap.size, 1, none⟩ = some (.slice (some ⟨bb2, off2, none⟩) fs.length c2) := fun x => ((hb x).cell (p := ⟨w.heap.size, 1, none⟩) (by simp; omega)).trans (by simp [go_sem])
  have x2 : ∀ x, (f x).cell? ⟨w.heap.size, 2, none⟩ = some (.slice (some ⟨bb3, off3, none⟩) gs.length c3) := fun x => ((hb x).cell (p := ⟨w.heap.size, 2, none⟩) (by simp; omega)).trans (by simp [go_sem])
  have y0 : ∀ x, (f x).cell? ⟨w.heap.size + 1, 0, none⟩ = some (.int .i64 m) := fun x => ((hb x).cell (p := ⟨w.heap.size + 1, 0, none⟩) (by simp)).trans (by simp [go_sem])
  have y1 : ∀ x, (f x).cell? ⟨w.heap.size + 1, 1, none⟩ = some (.int .i64 q) := fun x => ((hb x).cell (p := ⟨w.heap.size + 1, 1, none⟩) (by simp)).trans (by simp [go_sem])
  have hcm' : ∀ i, i < ms.length → ∀ x, (f x).cell? ⟨bb1, off1 + i, none⟩ = some (.int .i64 (nth ms i)) := fun i hi x => ((hb x).cell (p := ⟨bb1, off1 + i, none⟩) (by have := block_lt_of_cell (hcm i hi); simp at this ⊢; omega)).trans (((unhide B0).cell (block_lt_of_cell (hcm i hi))).trans (hcm i hi))
  have hcf' : ∀ i, i < fs.length → ∀ x, (f x).cell? ⟨bb2, off2 + i, none⟩ = some (.int .i64 (nth fs i)) := fun i hi x => ((hb x).cell (p := ⟨bb2, off2 + i, none⟩) (by have := block_lt_of_cell (hcf i hi); simp at this ⊢; omega)).trans (((unhide B0).cell (block_lt_of_cell (hcf i hi))).trans (hcf i hi))
  have hcg' : ∀ i, i < gs.length → ∀ x, (f x).cell? ⟨bb3, off3 + i, none⟩ = some (.int .i64 (nth gs i)) := fun i hi x => ((hb x).cell (p := ⟨bb3, off3 + i, none⟩) (by have := block_lt_of_cell (hcg i hi); simp at this ⊢; omega)).trans (((unhide B0).cell (block_lt_of_cell (hcg i hi))).trans (hcg i hi))
  have g0 := hcm' 0 (by omega)
  have g1 := hcm' (ms.length - 1) (by omega)
  simp only [Nat.add_zero] at g0
  have HCM := hide hcm'
  have HCF := hide hcf'
  have HCG := hide hcg'
  have HB := hide hb
  have HA := hide hall
  have hi0 : (0 : Int) < (ms.length : Int) := by omega
  have hwr : IntKind.i64.wrap ((ms.length : Int) - 1) = (ms.length : Int) - 1 := by rw [IntKind.wrap_i64]; omega
  have hj0 : (0 : Int) ≤ (ms.length : Int) - 1 := by omega
  have hj1 : (ms.length : Int) - 1 < (ms.length : Int) := by omega
  have hjt : ((ms.length : Int) - 1).toNat = ms.length - 1 := by omega
  clear hb hall hcm hcf hcg hcm' hcf' hcg'
  go_enter Try.func14, Try.ntmps14
  go_wp2_with fail
  have hmm : ¬ m < 1 := by omega
  refine wp_region_bel (unhide HA) (by kernel_rfl) (by kernel_rfl) ?_
  repeat (go_big_quiet_step (first
    | (go_at_call 10; exact belQ (unhide HB) (unhide HA) (specEnvelopeOk_is _ _ _ _ _ _ _ _ _ ms fs gs _ hc ((unhide H1).below (unhide HB _)) ((unhide H2).below (unhide HB _)) ((unhide H3).below (unhide HB _))))
    | (go_at_call 38; exact belS (l1In_is _ _ _ _ hin))))
  refine wpQuiet_nil ?_
  rintro _ ⟨x, rfl⟩
  go_wp2
  go_ret
  exact ⟨rfl, (unhide B0).trans ((unhide HB x).mono (by simp; omega))⟩

set_option maxHeartbeats 2000000 in
theorem specInside_mom (a1 a2 a3 : Option Addr) (l1 c1 l2 c2 l3 c3 : Nat) (ms fs gs : List Int) (m q : Int) (w : World) (h1 : Row w a1 l1 ms) (h2 : Row w a2 l2 fs) (h3 : Row w a3 l3 gs) (hc : envB ms fs gs = true) (hm : 1 ≤ m) (hin : inB m (nth ms 0) (nth ms (ms.length - 1)) = true) (hq : inB q (-1000000000) 1000000000 = false) :
    Calls Try.prog 14 #[.agg #[.slice a1 l1 c1, .slice a2 l2 c2, .slice a3 l3 c3], .agg #[.int .i64 m, .int .i64 q]] w fun e w' => e = .returned (.bool false) ∧ Below w.heap.size w w' := by
  have F := envB_facts hc
  have hn := F.many
  have HF := hide F
  have hf1 : fs.length ≤ ms.length := by have := F.lf; omega
  have hf2 : ms.length ≤ fs.length := by have := F.lf; omega
  have ha1 : gs.length ≤ ms.length := by have := F.la; omega
  have ha2 : ms.length ≤ gs.length := by have := F.la; omega
  clear F
  have hl1 := h1.len_eq
  have hl2 := h2.len_eq
  have hl3 := h3.len_eq
  subst hl1
  subst hl2
  subst hl3
  rcases h1.open_ with ⟨h0, _⟩ | ⟨bb1, off1, rfl, _, hcm⟩
  · omega
  rcases h2.open_ with ⟨h0, _⟩ | ⟨bb2, off2, rfl, _, hcf⟩
  · omega
  rcases h3.open_ with ⟨h0, _⟩ | ⟨bb3, off3, rfl, _, hcg⟩
  · omega
  have B0 := hide (bel2 (w := w) (.cells #[.slice (some ⟨bb1, off1, none⟩) ms.length c1, .slice (some ⟨bb2, off2, none⟩) fs.length c2, .slice (some ⟨bb3, off3, none⟩) gs.length c3] 27) (.cells #[.int .i64 m, .int .i64 q] 34))
  have H1 := hide (h1.below (unhide B0))
  have H2 := hide (h2.below (unhide B0))
  have H3 := hide (h3.below (unhide B0))
  clear h1 h2 h3
  obtain ⟨ι, f, hne, hb, hall⟩ := belClass ((w.alloc (.cells #[.slice (some ⟨bb1, off1, none⟩) ms.length c1, .slice (some ⟨bb2, off2, none⟩) fs.length c2, .slice (some ⟨bb3, off3, none⟩) gs.length c3] 27)).alloc (.cells #[.int .i64 m, .int .i64 q] 34))
  have x0 : ∀ x, (f x).cell? ⟨w.heap.size, 0, none⟩ = some (.slice (some ⟨bb1, off1, none⟩) ms.length c1) := fun x => ((hb x).cell (p := ⟨w.heap.size, 0, none⟩) (by simp; omega)).trans (by simp [go_sem])
  have x1 : ∀ x, (f x).cell? ⟨w.heap.size, 1, none⟩ = some (.slice (some ⟨bb2, off2, none⟩) fs.length c2) := fun x => ((hb x).cell (p := ⟨w.heap.size, 1, none⟩) (by simp; omega)).trans (by simp [go_sem])
  have x2 : ∀ x, (f x).cell? ⟨w.heap.size, 2, none⟩ = some (.slice (some ⟨bb3, off3, none⟩) gs.length c3) := fun x => ((hb x).cell (p := ⟨w.heap.size, 2, none⟩) (by simp; omega)).trans (by simp [go_sem])
  have y0 : ∀ x, (f x).cell? ⟨w.heap.size + 1, 0, none⟩ = some (.int .i64 m) := fun x => ((hb x).cell (p := ⟨w.heap.size + 1, 0, none⟩) (by simp)).trans (by simp [go_sem])
  have y1 : ∀ x, (f x).cell? ⟨w.heap.size + 1, 1, none⟩ = some (.int .i64 q) := fun x => ((hb x).cell (p := ⟨w.heap.size + 1, 1, none⟩) (by simp)).trans (by simp [go_sem])
  have hcm' : ∀ i, i < ms.length → ∀ x, (f x).cell? ⟨bb1, off1 + i, none⟩ = some (.int .i64 (nth ms i)) := fun i hi x => ((hb x).cell (p := ⟨bb1, off1 + i, none⟩) (by have := block_lt_of_cell (hcm i hi); simp at this ⊢; omega)).trans (((unhide B0).cell (block_lt_of_cell (hcm i hi))).trans (hcm i hi))
  have hcf' : ∀ i, i < fs.length → ∀ x, (f x).cell? ⟨bb2, off2 + i, none⟩ = some (.int .i64 (nth fs i)) := fun i hi x => ((hb x).cell (p := ⟨bb2, off2 + i, none⟩) (by have := block_lt_of_cell (hcf i hi); simp at this ⊢; omega)).trans (((unhide B0).cell (block_lt_of_cell (hcf i hi))).trans (hcf i hi))
  have hcg' : ∀ i, i < gs.length → ∀ x, (f x).cell? ⟨bb3, off3 + i, none⟩ = some (.int .i64 (nth gs i)) := fun i hi x => ((hb x).cell (p := ⟨bb3, off3 + i, none⟩) (by have := block_lt_of_cell (hcg i hi); simp at this ⊢; omega)).trans (((unhide B0).cell (block_lt_of_cell (hcg i hi))).trans (hcg i hi))
  have g0 := hcm' 0 (by omega)
  have g1 := hcm' (ms.length - 1) (by omega)
  simp only [Nat.add_zero] at g0
  have HCM := hide hcm'
  have HCF := hide hcf'
  have HCG := hide hcg'
  have HB := hide hb
  have HA := hide hall
  have hi0 : (0 : Int) < (ms.length : Int) := by omega
  have hwr : IntKind.i64.wrap ((ms.length : Int) - 1) = (ms.length : Int) - 1 := by rw [IntKind.wrap_i64]; omega
  have hj0 : (0 : Int) ≤ (ms.length : Int) - 1 := by omega
  have hj1 : (ms.length : Int) - 1 < (ms.length : Int) := by omega
  have hjt : ((ms.length : Int) - 1).toNat = ms.length - 1 := by omega
  clear hb hall hcm hcf hcg hcm' hcf' hcg'
  go_enter Try.func14, Try.ntmps14
  go_wp2_with fail
  have hmm : ¬ m < 1 := by omega
  refine wp_region_bel (unhide HA) (by kernel_rfl) (by kernel_rfl) ?_
  repeat (go_big_quiet_step (first
    | (go_at_call 10; exact belQ (unhide HB) (unhide HA) (specEnvelopeOk_is _ _ _ _ _ _ _ _ _ ms fs gs _ hc ((unhide H1).below (unhide HB _)) ((unhide H2).below (unhide HB _)) ((unhide H3).below (unhide HB _))))
    | (go_at_call 38; exact belS (l1In_is _ _ _ _ (by first | exact hin | exact hq)))))
  refine wpQuiet_nil ?_
  rintro _ ⟨x, rfl⟩
  go_wp2
  go_ret
  exact ⟨rfl, (unhide B0).trans ((unhide HB x).mono (by simp; omega))⟩

set_option maxHeartbeats 2000000 in
theorem specInside_yes (a1 a2 a3 : Option Addr) (l1 c1 l2 c2 l3 c3 : Nat) (ms fs gs : List Int) (m q : Int) (w : World) (h1 : Row w a1 l1 ms) (h2 : Row w a2 l2 fs) (h3 : Row w a3 l3 gs) (hc : envB ms fs gs = true) (hm : 1 ≤ m) (hin : inB m (nth ms 0) (nth ms (ms.length - 1)) = true) (hq : inB q (-1000000000) 1000000000 = true) :
    Calls Try.prog 14 #[.agg #[.slice a1 l1 c1, .slice a2 l2 c2, .slice a3 l3 c3], .agg #[.int .i64 m, .int .i64 q]] w fun e w' => e = .returned (.bool (foreB ms fs m q && aftB ms gs m q)) ∧ Below w.heap.size w w' := by
  have F := envB_facts hc
  have hn := F.many
  have HF := hide F
  have hf1 : fs.length ≤ ms.length := by have := F.lf; omega
  have hf2 : ms.length ≤ fs.length := by have := F.lf; omega
  have ha1 : gs.length ≤ ms.length := by have := F.la; omega
  have ha2 : ms.length ≤ gs.length := by have := F.la; omega
  clear F
  have hl1 := h1.len_eq
  have hl2 := h2.len_eq
  have hl3 := h3.len_eq
  subst hl1
  subst hl2
  subst hl3
  rcases h1.open_ with ⟨h0, _⟩ | ⟨bb1, off1, rfl, _, hcm⟩
  · omega
  rcases h2.open_ with ⟨h0, _⟩ | ⟨bb2, off2, rfl, _, hcf⟩
  · omega
  rcases h3.open_ with ⟨h0, _⟩ | ⟨bb3, off3, rfl, _, hcg⟩
  · omega
  have B0 := hide (bel2 (w := w) (.cells #[.slice (some ⟨bb1, off1, none⟩) ms.length c1, .slice (some ⟨bb2, off2, none⟩) fs.length c2, .slice (some ⟨bb3, off3, none⟩) gs.length c3] 27) (.cells #[.int .i64 m, .int .i64 q] 34))
  have H1 := hide (h1.below (unhide B0))
  have H2 := hide (h2.below (unhide B0))
  have H3 := hide (h3.below (unhide B0))
  clear h1 h2 h3
  obtain ⟨ι, f, hne, hb, hall⟩ := belClass ((w.alloc (.cells #[.slice (some ⟨bb1, off1, none⟩) ms.length c1, .slice (some ⟨bb2, off2, none⟩) fs.length c2, .slice (some ⟨bb3, off3, none⟩) gs.length c3] 27)).alloc (.cells #[.int .i64 m, .int .i64 q] 34))
  have x0 : ∀ x, (f x).cell? ⟨w.heap.size, 0, none⟩ = some (.slice (some ⟨bb1, off1, none⟩) ms.length c1) := fun x => ((hb x).cell (p := ⟨w.heap.size, 0, none⟩) (by simp; omega)).trans (by simp [go_sem])
  have x1 : ∀ x, (f x).cell? ⟨w.heap.size, 1, none⟩ = some (.slice (some ⟨bb2, off2, none⟩) fs.length c2) := fun x => ((hb x).cell (p := ⟨w.heap.size, 1, none⟩) (by simp; omega)).trans (by simp [go_sem])
  have x2 : ∀ x, (f x).cell? ⟨w.heap.size, 2, none⟩ = some (.slice (some ⟨bb3, off3, none⟩) gs.length c3) := fun x => ((hb x).cell (p := ⟨w.heap.size, 2, none⟩) (by simp; omega)).trans (by simp [go_sem])
  have y0 : ∀ x, (f x).cell? ⟨w.heap.size + 1, 0, none⟩ = some (.int .i64 m) := fun x => ((hb x).cell (p := ⟨w.heap.size + 1, 0, none⟩) (by simp)).trans (by simp [go_sem])
  have y1 : ∀ x, (f x).cell? ⟨w.heap.size + 1, 1, none⟩ = some (.int .i64 q) := fun x => ((hb x).cell (p := ⟨w.heap.size + 1, 1, none⟩) (by simp)).trans (by simp [go_sem])
  have hcm' : ∀ i, i < ms.length → ∀ x, (f x).cell? ⟨bb1, off1 + i, none⟩ = some (.int .i64 (nth ms i)) := fun i hi x => ((hb x).cell (p := ⟨bb1, off1 + i, none⟩) (by have := block_lt_of_cell (hcm i hi); simp at this ⊢; omega)).trans (((unhide B0).cell (block_lt_of_cell (hcm i hi))).trans (hcm i hi))
  have hcf' : ∀ i, i < fs.length → ∀ x, (f x).cell? ⟨bb2, off2 + i, none⟩ = some (.int .i64 (nth fs i)) := fun i hi x => ((hb x).cell (p := ⟨bb2, off2 + i, none⟩) (by have := block_lt_of_cell (hcf i hi); simp at this ⊢; omega)).trans (((unhide B0).cell (block_lt_of_cell (hcf i hi))).trans (hcf i hi))
  have hcg' : ∀ i, i < gs.length → ∀ x, (f x).cell? ⟨bb3, off3 + i, none⟩ = some (.int .i64 (nth gs i)) := fun i hi x => ((hb x).cell (p := ⟨bb3, off3 + i, none⟩) (by have := block_lt_of_cell (hcg i hi); simp at this ⊢; omega)).trans (((unhide B0).cell (block_lt_of_cell (hcg i hi))).trans (hcg i hi))
  have g0 := hcm' 0 (by omega)
  have g1 := hcm' (ms.length - 1) (by omega)
  simp only [Nat.add_zero] at g0
  have HCM := hide hcm'
  have HCF := hide hcf'
  have HCG := hide hcg'
  have HB := hide hb
  have HA := hide hall
  have hi0 : (0 : Int) < (ms.length : Int) := by omega
  have hwr : IntKind.i64.wrap ((ms.length : Int) - 1) = (ms.length : Int) - 1 := by rw [IntKind.wrap_i64]; omega
  have hj0 : (0 : Int) ≤ (ms.length : Int) - 1 := by omega
  have hj1 : (ms.length : Int) - 1 < (ms.length : Int) := by omega
  have hjt : ((ms.length : Int) - 1).toNat = ms.length - 1 := by omega
  clear hb hall hcm hcf hcg hcm' hcf' hcg'
  go_enter Try.func14, Try.ntmps14
  go_wp2_with fail
  have hmm : ¬ m < 1 := by omega
  refine wp_region_bel (unhide HA) (by kernel_rfl) (by kernel_rfl) ?_
  repeat (go_big_quiet_step (first
    | (go_at_call 10; exact belQ (unhide HB) (unhide HA) (specEnvelopeOk_is _ _ _ _ _ _ _ _ _ ms fs gs _ hc ((unhide H1).below (unhide HB _)) ((unhide H2).below (unhide HB _)) ((unhide H3).below (unhide HB _))))
    | (go_at_call 38; exact belS (l1In_is _ _ _ _ (by first | exact hin | exact hq)))))
  refine wpQuiet_nil ?_
  rintro _ ⟨x, rfl⟩
  have b1 := unhide HB x
  have hs1 : w.heap.size + 1 < (f x).heap.size := by have := b1.size; simp at this; omega
  have B1 := hide ((unhide B0).trans (b1.mono (by simp; omega)))
  have x0 := x0 x
  have x1 := x1 x
  have x2 := x2 x
  have y0 := y0 x
  have y1 := y1 x
  have HX := hide fun i hi => unhide HCM i hi x
  have HY := hide fun i hi => unhide HCF i hi x
  have HZ := hide fun i hi => unhide HCG i hi x
  generalize f x = w1 at *
  clear b1 g0 g1 HCM HCF HCG HB HA H1 H2 H3 hwr hj0 hj1 hjt
  have hxi := in_facts hin
  have hx0 := (unhide HF).mb 0 (by omega)
  have hx1 := (unhide HF).mb (ms.length - 1) (by omega)
  have hxx : 0 ≤ m ∧ m ≤ 400000 := by omega
  have hqq := in_facts hq
  clear hxi hx0 hx1 hin hq
  go_wp2_with fail
  refine (l1Low_any _ _ _ ms _ _ (by omega) (by omega) (unhide HX)).mono ?_
  rintro e w' ⟨rfl, hw⟩
  subst w'
  have hk2 := lowAt_lt (zs := ms) (x := m) (by omega)
  have HN : Hid (foreB ms fs m q = decide (bndAt ms fs m (lowAt ms m) * m ≤ q * widAt ms (lowAt ms m))) := hide rfl
  have HD : Hid (aftB ms gs m q = decide (q * widAt ms (lowAt ms m) ≤ bndAt ms gs m (lowAt ms m) * m)) := hide rfl
  unfold bndAt widAt at HN HD
  generalize lowAt ms m = k at *
  have cx0 := (unhide HX) k (by omega)
  have cx1 := (unhide HX) (k + 1) (by omega)
  have cy0 := (unhide HY) k (by omega)
  have cy1 := (unhide HY) (k + 1) (by omega)
  have cz0 := (unhide HZ) k (by omega)
  have cz1 := (unhide HZ) (k + 1) (by omega)
  have bx0 := (unhide HF).mb k (by omega)
  have bx1 := (unhide HF).mb (k + 1) (by omega)
  have by0 := (unhide HF).fb k (by omega)
  have by1 := (unhide HF).fb (k + 1) (by omega)
  have bz0 := (unhide HF).ab k (by omega)
  have bz1 := (unhide HF).ab (k + 1) (by omega)
  obtain ⟨p1, p2, p3, p4⟩ := bnd_bd (q := q) bx0 bx1 by0 by1 hxx hqq
  obtain ⟨p5, p6, p7, _⟩ := bnd_bd (q := q) bx0 bx1 bz0 bz1 hxx hqq
  have hkk0 : (0 : Int) ≤ (k : Int) := by omega
  have hkk1 : (k : Int) < (ms.length : Int) := by omega
  have hkk2 : (k : Int) + 1 < (ms.length : Int) := by omega
  have hkk3 : (k : Int) < (fs.length : Int) := by omega
  have hkk4 : (k : Int) + 1 < (fs.length : Int) := by omega
  have hkk5 : (k : Int) < (gs.length : Int) := by omega
  have hkk6 : (k : Int) + 1 < (gs.length : Int) := by omega
  clear HX HY HZ
  go_wp2_with fail
  go_quiet (fail)
  go_wp2_with fail
  go_quiet (fail)
  go_wp2_with fail
  go_quiet (fail)
  by_cases hA : (nth fs k * (nth ms (k + 1) - nth ms k) + (nth fs (k + 1) - nth fs k) * (m - nth ms k)) * m ≤ q * (nth ms (k + 1) - nth ms k) <;> by_cases hZ : q * (nth ms (k + 1) - nth ms k) ≤ (nth gs k * (nth ms (k + 1) - nth ms k) + (nth gs (k + 1) - nth gs k) * (m - nth ms k)) * m
  all_goals
    go_wp2
    go_ret
    refine ⟨ret_bool ?_, (unhide B1).trans (bel0d' _)⟩
    rw [unhide HN, unhide HD]
    simp [hA, hZ]

theorem specInside_any (a1 a2 a3 : Option Addr) (l1 c1 l2 c2 l3 c3 : Nat) (ms fs gs : List Int) (m q : Int) (w : World) (h1 : Row w a1 l1 ms) (h2 : Row w a2 l2 fs) (h3 : Row w a3 l3 gs) :
    Calls Try.prog 14 #[.agg #[.slice a1 l1 c1, .slice a2 l2 c2, .slice a3 l3 c3], .agg #[.int .i64 m, .int .i64 q]] w fun e w' => e = .returned (.bool (insB ms fs gs m q)) ∧ Below w.heap.size w w' := by
  cases hc : envB ms fs gs
  · rw [ins_env hc]; exact specInside_no a1 a2 a3 l1 c1 l2 c2 l3 c3 ms fs gs m q w h1 h2 h3 hc
  · by_cases hm : 1 ≤ m
    · cases hin : inB m (nth ms 0) (nth ms (ms.length - 1))
      · rw [ins_out hin]; exact specInside_out a1 a2 a3 l1 c1 l2 c2 l3 c3 ms fs gs m q w h1 h2 h3 hc hm hin
      · cases hq : inB q (-1000000000) 1000000000
        · rw [ins_mom hq]; exact specInside_mom a1 a2 a3 l1 c1 l2 c2 l3 c3 ms fs gs m q w h1 h2 h3 hc hm hin hq
        · rw [ins_yes hc hm hin hq]; exact specInside_yes a1 a2 a3 l1 c1 l2 c2 l3 c3 ms fs gs m q w h1 h2 h3 hc hm hin hq
    · rw [ins_low hm]; exact specInside_low a1 a2 a3 l1 c1 l2 c2 l3 c3 ms fs gs m q w h1 h2 h3 hc hm

end Go.Proofs.Ytbaocifpifbldaj
