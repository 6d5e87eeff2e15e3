/-
  What AtGrid answers in the program: the model's fraction and flag at every grid whose lists have no less room than length; nothing that was there is written.
-/
import Derived.Test.YtbaocifpifbldaaGridAtPure
import Derived.Test.YtbaocifpifbldaaLow
import Derived.Deep.DrawnRows
namespace Go.Proofs.Ytbaocifpifbldaa
open Go.RowKit
attribute [local go_sem ↓] Go.wp_at_zero Go.wp_at_succ

set_option maxRecDepth 100000 in
set_option maxHeartbeats 2000000 in
theorem implAtGrid_no (a1 a2 a3 : Option Addr) (l1 c1 l2 c2 l3 c3 : Nat) (xs ys : List Int) (zss : List (List Int)) (x y : Int) (w : World) (h1 : Row w a1 l1 xs) (h2 : Row w a2 l2 ys) (h3 : RowS w a3 l3 zss) (hc : gridB xs ys zss = false) :
    Calls Try.prog 16 #[.agg #[.slice a1 l1 c1, .slice a2 l2 c2, .slice a3 l3 c3], .int .i64 x, .int .i64 y] w fun e w' => e = .returned (.tuple #[.agg #[.int .i64 0, .int .i64 0], .bool false]) ∧ Below w.heap.size w w' := by
  have B0 := hide (bel2 (w := w) (.cells #[.slice a1 l1 c1, .slice a2 l2 c2, .slice a3 l3 c3] 39) (.cells #[.int .i64 0, .int .i64 0] 30))
  have H1 := hide (h1.below (unhide B0))
  have H2 := hide (h2.below (unhide B0))
  have H3 := hide (h3.below (unhide B0))
  clear h1 h2 h3
  go_enter Try.func16, Try.ntmps16
  go_wp2_with fail
  refine (implGridOk_is _ _ _ _ _ _ _ _ _ xs ys zss _ hc (unhide H1) (unhide H2) (unhide H3)).mono ?_
  rintro e w1 ⟨rfl, b1⟩
  have e0 : w1.cell? ⟨w.heap.size + 1, 0, none⟩ = some (.int .i64 0) := (b1.cell (p := ⟨w.heap.size + 1, 0, none⟩) (by simp)).trans (by simp [go_sem])
  have e1 : w1.cell? ⟨w.heap.size + 1, 1, none⟩ = some (.int .i64 0) := (b1.cell (p := ⟨w.heap.size + 1, 1, none⟩) (by simp)).trans (by simp [go_sem])
  have f0 : w1.frozen? ⟨w.heap.size + 1, 0, none⟩ = false := (b1.frozen (p := ⟨w.heap.size + 1, 0, none⟩) (by simp)).trans (by simp [go_sem])
  have f1 : w1.frozen? ⟨w.heap.size + 1, 1, none⟩ = false := (b1.frozen (p := ⟨w.heap.size + 1, 1, none⟩) (by simp)).trans (by simp [go_sem])
  have B1 := hide ((unhide B0).trans (b1.mono (by simp; omega)))
  clear b1
  go_wp2
  refine bodyPost_ret (v := .tuple #[.agg #[.int .i64 0, .int .i64 0], .bool false]) (by simp [results, Try.results16, go_sem, *]) rfl ⟨rfl, ?_⟩
  repeat (first | exact unhide B1 | refine Below.setCell ?_ (by simp; try omega) _)

set_option maxRecDepth 100000 in
set_option maxHeartbeats 2000000 in
theorem implAtGrid_outA (a1 a2 a3 : Option Addr) (l1 c1 l2 c2 l3 c3 : Nat) (xs ys : List Int) (zss : List (List Int)) (x y : Int) (w : World) (h1 : Row w a1 l1 xs) (h2 : Row w a2 l2 ys) (h3 : RowS w a3 l3 zss) (hc : gridB xs ys zss = true) (hin : inB x (nth xs 0) (nth xs (xs.length - 1)) = false) (hiny : inB y (nth ys 0) (nth ys (ys.length - 1)) = false) :
    Calls Try.prog 16 #[.agg #[.slice a1 l1 c1, .slice a2 l2 c2, .slice a3 l3 c3], .int .i64 x, .int .i64 y] w fun e w' => e = .returned (.tuple #[.agg #[.int .i64 0, .int .i64 0], .bool false]) ∧ Below w.heap.size w w' := by
  have F := gridB_facts hc
  have hnx := F.nx
  have hny := F.ny
  have hnz := F.nz
  have HF := hide F
  have B0 := hide (bel2 (w := w) (.cells #[.slice a1 l1 c1, .slice a2 l2 c2, .slice a3 l3 c3] 39) (.cells #[.int .i64 0, .int .i64 0] 30))
  have H1 := hide (h1.below (unhide B0))
  have H2 := hide (h2.below (unhide B0))
  have H3 := hide (h3.below (unhide B0))
  have hl1 := h1.len_eq
  have hl2 := h2.len_eq
  have hl3 := h3.len_eq
  subst hl1
  subst hl2
  subst hl3
  have hz1 : zss.length ≤ ys.length := by omega
  have hz2 : ys.length ≤ zss.length := by omega
  rcases h1.open_ with ⟨h0, _⟩ | ⟨bb1, off1, rfl, _, hcxw⟩
  · omega
  rcases h2.open_ with ⟨h0, _⟩ | ⟨bb2, off2, rfl, _, hcyw⟩
  · omega
  rcases h3.open_ with ⟨h0, _⟩ | ⟨bb3, off3, rfl, _, hczw⟩
  · omega
  have hcx := fun i hi => ((unhide B0).cell (block_lt_of_cell (hcxw i hi))).trans (hcxw i hi)
  have hcy := fun i hi => ((unhide B0).cell (block_lt_of_cell (hcyw i hi))).trans (hcyw i hi)
  have hbx : bb1 < w.heap.size := block_lt_of_cell (hcxw 0 (by omega))
  have hby : bb2 < w.heap.size := block_lt_of_cell (hcyw 0 (by omega))
  have hnx1 : ¬ (w.heap.size + 1 = bb1) := by omega
  have hny1 : ¬ (w.heap.size + 1 = bb2) := by omega
  have hnx2 : ¬ (bb1 = w.heap.size + 1) := by omega
  have hny2 : ¬ (bb2 = w.heap.size + 1) := by omega
  have g0 := hcx 0 (by omega)
  have g1 := hcx (xs.length - 1) (by omega)
  have g2 := hcy 0 (by omega)
  have g3 := hcy (ys.length - 1) (by omega)
  simp only [Nat.add_zero] at g0 g2
  have lt0 := block_lt_of_cell g0
  have lt2 := block_lt_of_cell g2
  have HCX := hide hcxw
  have HCY := hide hcyw
  have HCZ := hide hczw
  have hi0 : (0 : Int) < (xs.length : Int) := by omega
  have hwr : IntKind.i64.wrap ((xs.length : Int) - 1) = (xs.length : Int) - 1 := by rw [IntKind.wrap_i64]; omega
  have hj0 : (0 : Int) ≤ (xs.length : Int) - 1 := by omega
  have hj1 : (xs.length : Int) - 1 < (xs.length : Int) := by omega
  have hjt : ((xs.length : Int) - 1).toNat = xs.length - 1 := by omega
  have ha1 : (1 : Int) ≤ (xs.length : Int) := by omega
  have ha2 : 1 ≤ xs.length := by omega
  have ha3 : 0 < xs.length := by omega
  have ii0 : (0 : Int) < (ys.length : Int) := by omega
  have iwr : IntKind.i64.wrap ((ys.length : Int) - 1) = (ys.length : Int) - 1 := by rw [IntKind.wrap_i64]; omega
  have ij0 : (0 : Int) ≤ (ys.length : Int) - 1 := by omega
  have ij1 : (ys.length : Int) - 1 < (ys.length : Int) := by omega
  have ijt : ((ys.length : Int) - 1).toNat = ys.length - 1 := by omega
  have ia1 : (1 : Int) ≤ (ys.length : Int) := by omega
  have ia2 : 1 ≤ ys.length := by omega
  have ia3 : 0 < ys.length := by omega
  clear F h1 h2 h3 hcxw hcyw hczw hcx hcy hnz
  go_enter Try.func16, Try.ntmps16
  go_wp2_with fail
  refine (implGridOk_is _ _ _ _ _ _ _ _ _ xs ys zss _ hc (unhide H1) (unhide H2) (unhide H3)).mono ?_
  rintro e w1 ⟨rfl, b1⟩
  have e0 : w1.cell? ⟨w.heap.size + 1, 0, none⟩ = some (.int .i64 0) := (b1.cell (p := ⟨w.heap.size + 1, 0, none⟩) (by simp)).trans (by simp [go_sem])
  have e1 : w1.cell? ⟨w.heap.size + 1, 1, none⟩ = some (.int .i64 0) := (b1.cell (p := ⟨w.heap.size + 1, 1, none⟩) (by simp)).trans (by simp [go_sem])
  have f0 : w1.frozen? ⟨w.heap.size + 1, 0, none⟩ = false := (b1.frozen (p := ⟨w.heap.size + 1, 0, none⟩) (by simp)).trans (by simp [go_sem])
  have f1 : w1.frozen? ⟨w.heap.size + 1, 1, none⟩ = false := (b1.frozen (p := ⟨w.heap.size + 1, 1, none⟩) (by simp)).trans (by simp [go_sem])
  have x0 : w1.cell? ⟨w.heap.size, 0, none⟩ = some (.slice (some ⟨bb1, off1, none⟩) xs.length c1) := (b1.cell (p := ⟨w.heap.size, 0, none⟩) (by simp; omega)).trans (by simp [go_sem])
  have x1 : w1.cell? ⟨w.heap.size, 1, none⟩ = some (.slice (some ⟨bb2, off2, none⟩) ys.length c2) := (b1.cell (p := ⟨w.heap.size, 1, none⟩) (by simp; omega)).trans (by simp [go_sem])
  have x2 : w1.cell? ⟨w.heap.size, 2, none⟩ = some (.slice (some ⟨bb3, off3, none⟩) zss.length c3) := (b1.cell (p := ⟨w.heap.size, 2, none⟩) (by simp; omega)).trans (by simp [go_sem])
  have hs1 : w.heap.size + 1 < w1.heap.size := by have := b1.size; simp at this; omega
  have hs0 : w.heap.size < w1.heap.size := by omega
  have B1 := hide ((unhide B0).trans (b1.mono (by simp; omega)))
  have hcx1 : ∀ j, j < xs.length → w1.cell? ⟨bb1, off1 + j, none⟩ = some (.int .i64 (nth xs j)) := fun j hj => ((unhide B1).cell (block_lt_of_cell ((unhide HCX) j hj))).trans ((unhide HCX) j hj)
  have hcy1 : ∀ j, j < ys.length → w1.cell? ⟨bb2, off2 + j, none⟩ = some (.int .i64 (nth ys j)) := fun j hj => ((unhide B1).cell (block_lt_of_cell ((unhide HCY) j hj))).trans ((unhide HCY) j hj)
  have HX := hide hcx1
  have HY := hide hcy1
  clear b1 hcx1 hcy1 hwr hj0 hj1 hjt iwr ij0 ij1 ijt g0 g1 g2 g3 H1 H2 H3 hc
  go_wp2_with fail
  refine (lowerPlace_no _ _ _ xs _ _ (by omega) (by omega) (unhide HX) hin).mono ?_
  rintro e w2 ⟨rfl, n, hw⟩
  have b2 : Below w1.heap.size w1 w2 := by rw [hw]; exact bel0d' n
  clear hw
  have x0 := (b2.cell (p := ⟨w.heap.size, 0, none⟩) hs0).trans x0
  have x1 := (b2.cell (p := ⟨w.heap.size, 1, none⟩) hs0).trans x1
  have x2 := (b2.cell (p := ⟨w.heap.size, 2, none⟩) hs0).trans x2
  have e0 := (b2.cell (p := ⟨w.heap.size + 1, 0, none⟩) hs1).trans e0
  have f0 := (b2.frozen (p := ⟨w.heap.size + 1, 0, none⟩) hs1).trans f0
  have e1 := (b2.cell (p := ⟨w.heap.size + 1, 1, none⟩) hs1).trans e1
  have f1 := (b2.frozen (p := ⟨w.heap.size + 1, 1, none⟩) hs1).trans f1
  have hs0 : w.heap.size < w2.heap.size := by have := b2.size; omega
  have hs1 : w.heap.size + 1 < w2.heap.size := by have := b2.size; omega
  have B2 := hide ((unhide B1).trans (b2.mono (by omega)))
  have HX := hide (fun j hj => (b2.cell (block_lt_of_cell ((unhide HX) j hj))).trans ((unhide HX) j hj))
  have HY := hide (fun j hj => (b2.cell (block_lt_of_cell ((unhide HY) j hj))).trans ((unhide HY) j hj))
  clear b2
  go_wp2_with fail
  refine (lowerPlace_no _ _ _ ys _ _ (by omega) (by omega) (unhide HY) hiny).mono ?_
  rintro e w3 ⟨rfl, m, hw⟩
  have b3 : Below w2.heap.size w2 w3 := by rw [hw]; exact bel0d' m
  clear hw
  have x0 := (b3.cell (p := ⟨w.heap.size, 0, none⟩) hs0).trans x0
  have x1 := (b3.cell (p := ⟨w.heap.size, 1, none⟩) hs0).trans x1
  have x2 := (b3.cell (p := ⟨w.heap.size, 2, none⟩) hs0).trans x2
  have e0 := (b3.cell (p := ⟨w.heap.size + 1, 0, none⟩) hs1).trans e0
  have f0 := (b3.frozen (p := ⟨w.heap.size + 1, 0, none⟩) hs1).trans f0
  have e1 := (b3.cell (p := ⟨w.heap.size + 1, 1, none⟩) hs1).trans e1
  have f1 := (b3.frozen (p := ⟨w.heap.size + 1, 1, none⟩) hs1).trans f1
  have hs0 : w.heap.size < w3.heap.size := by have := b3.size; omega
  have hs1 : w.heap.size + 1 < w3.heap.size := by have := b3.size; omega
  have B3 := hide ((unhide B2).trans (b3.mono (by omega)))
  have HX := hide (fun j hj => (b3.cell (block_lt_of_cell ((unhide HX) j hj))).trans ((unhide HX) j hj))
  have HY := hide (fun j hj => (b3.cell (block_lt_of_cell ((unhide HY) j hj))).trans ((unhide HY) j hj))
  clear b3
  go_wp2
  refine bodyPost_ret (v := .tuple #[.agg #[.int .i64 0, .int .i64 0], .bool false]) (by simp [results, Try.results16, go_sem, *]) rfl ⟨rfl, ?_⟩
  repeat (first | exact unhide B3 | refine Below.setCell ?_ (by simp; try omega) _)

set_option maxRecDepth 100000 in
set_option maxHeartbeats 2000000 in
theorem implAtGrid_outB (a1 a2 a3 : Option Addr) (l1 c1 l2 c2 l3 c3 : Nat) (xs ys : List Int) (zss : List (List Int)) (x y : Int) (w : World) (h1 : Row w a1 l1 xs) (h2 : Row w a2 l2 ys) (h3 : RowS w a3 l3 zss) (hc : gridB xs ys zss = true) (hin : inB x (nth xs 0) (nth xs (xs.length - 1)) = false) (hiny : inB y (nth ys 0) (nth ys (ys.length - 1)) = true) :
    Calls Try.prog 16 #[.agg #[.slice a1 l1 c1, .slice a2 l2 c2, .slice a3 l3 c3], .int .i64 x, .int .i64 y] w fun e w' => e = .returned (.tuple #[.agg #[.int .i64 0, .int .i64 0], .bool false]) ∧ Below w.heap.size w w' := by
  have F := gridB_facts hc
  have hnx := F.nx
  have hny := F.ny
  have hnz := F.nz
  have HF := hide F
  have B0 := hide (bel2 (w := w) (.cells #[.slice a1 l1 c1, .slice a2 l2 c2, .slice a3 l3 c3] 39) (.cells #[.int .i64 0, .int .i64 0] 30))
  have H1 := hide (h1.below (unhide B0))
  have H2 := hide (h2.below (unhide B0))
  have H3 := hide (h3.below (unhide B0))
  have hl1 := h1.len_eq
  have hl2 := h2.len_eq
  have hl3 := h3.len_eq
  subst hl1
  subst hl2
  subst hl3
  have hz1 : zss.length ≤ ys.length := by omega
  have hz2 : ys.length ≤ zss.length := by omega
  rcases h1.open_ with ⟨h0, _⟩ | ⟨bb1, off1, rfl, _, hcxw⟩
  · omega
  rcases h2.open_ with ⟨h0, _⟩ | ⟨bb2, off2, rfl, _, hcyw⟩
  · omega
  rcases h3.open_ with ⟨h0, _⟩ | ⟨bb3, off3, rfl, _, hczw⟩
  · omega
  have hcx := fun i hi => ((unhide B0).cell (block_lt_of_cell (hcxw i hi))).trans (hcxw i hi)
  have hcy := fun i hi => ((unhide B0).cell (block_lt_of_cell (hcyw i hi))).trans (hcyw i hi)
  have hbx : bb1 < w.heap.size := block_lt_of_cell (hcxw 0 (by omega))
  have hby : bb2 < w.heap.size := block_lt_of_cell (hcyw 0 (by omega))
  have hnx1 : ¬ (w.heap.size + 1 = bb1) := by omega
  have hny1 : ¬ (w.heap.size + 1 = bb2) := by omega
  have hnx2 : ¬ (bb1 = w.heap.size + 1) := by omega
  have hny2 : ¬ (bb2 = w.heap.size + 1) := by omega
  have g0 := hcx 0 (by omega)
  have g1 := hcx (xs.length - 1) (by omega)
  have g2 := hcy 0 (by omega)
  have g3 := hcy (ys.length - 1) (by omega)
  simp only [Nat.add_zero] at g0 g2
  have lt0 := block_lt_of_cell g0
  have lt2 := block_lt_of_cell g2
  have HCX := hide hcxw
  have HCY := hide hcyw
  have HCZ := hide hczw
  have hi0 : (0 : Int) < (xs.length : Int) := by omega
  have hwr : IntKind.i64.wrap ((xs.length : Int) - 1) = (xs.length : Int) - 1 := by rw [IntKind.wrap_i64]; omega
  have hj0 : (0 : Int) ≤ (xs.length : Int) - 1 := by omega
  have hj1 : (xs.length : Int) - 1 < (xs.length : Int) := by omega
  have hjt : ((xs.length : Int) - 1).toNat = xs.length - 1 := by omega
  have ha1 : (1 : Int) ≤ (xs.length : Int) := by omega
  have ha2 : 1 ≤ xs.length := by omega
  have ha3 : 0 < xs.length := by omega
  have ii0 : (0 : Int) < (ys.length : Int) := by omega
  have iwr : IntKind.i64.wrap ((ys.length : Int) - 1) = (ys.length : Int) - 1 := by rw [IntKind.wrap_i64]; omega
  have ij0 : (0 : Int) ≤ (ys.length : Int) - 1 := by omega
  have ij1 : (ys.length : Int) - 1 < (ys.length : Int) := by omega
  have ijt : ((ys.length : Int) - 1).toNat = ys.length - 1 := by omega
  have ia1 : (1 : Int) ≤ (ys.length : Int) := by omega
  have ia2 : 1 ≤ ys.length := by omega
  have ia3 : 0 < ys.length := by omega
  clear F h1 h2 h3 hcxw hcyw hczw hcx hcy hnz
  go_enter Try.func16, Try.ntmps16
  go_wp2_with fail
  refine (implGridOk_is _ _ _ _ _ _ _ _ _ xs ys zss _ hc (unhide H1) (unhide H2) (unhide H3)).mono ?_
  rintro e w1 ⟨rfl, b1⟩
  have e0 : w1.cell? ⟨w.heap.size + 1, 0, none⟩ = some (.int .i64 0) := (b1.cell (p := ⟨w.heap.size + 1, 0, none⟩) (by simp)).trans (by simp [go_sem])
  have e1 : w1.cell? ⟨w.heap.size + 1, 1, none⟩ = some (.int .i64 0) := (b1.cell (p := ⟨w.heap.size + 1, 1, none⟩) (by simp)).trans (by simp [go_sem])
  have f0 : w1.frozen? ⟨w.heap.size + 1, 0, none⟩ = false := (b1.frozen (p := ⟨w.heap.size + 1, 0, none⟩) (by simp)).trans (by simp [go_sem])
  have f1 : w1.frozen? ⟨w.heap.size + 1, 1, none⟩ = false := (b1.frozen (p := ⟨w.heap.size + 1, 1, none⟩) (by simp)).trans (by simp [go_sem])
  have x0 : w1.cell? ⟨w.heap.size, 0, none⟩ = some (.slice (some ⟨bb1, off1, none⟩) xs.length c1) := (b1.cell (p := ⟨w.heap.size, 0, none⟩) (by simp; omega)).trans (by simp [go_sem])
  have x1 : w1.cell? ⟨w.heap.size, 1, none⟩ = some (.slice (some ⟨bb2, off2, none⟩) ys.length c2) := (b1.cell (p := ⟨w.heap.size, 1, none⟩) (by simp; omega)).trans (by simp [go_sem])
  have x2 : w1.cell? ⟨w.heap.size, 2, none⟩ = some (.slice (some ⟨bb3, off3, none⟩) zss.length c3) := (b1.cell (p := ⟨w.heap.size, 2, none⟩) (by simp; omega)).trans (by simp [go_sem])
  have hs1 : w.heap.size + 1 < w1.heap.size := by have := b1.size; simp at this; omega
  have hs0 : w.heap.size < w1.heap.size := by omega
  have B1 := hide ((unhide B0).trans (b1.mono (by simp; omega)))
  have hcx1 : ∀ j, j < xs.length → w1.cell? ⟨bb1, off1 + j, none⟩ = some (.int .i64 (nth xs j)) := fun j hj => ((unhide B1).cell (block_lt_of_cell ((unhide HCX) j hj))).trans ((unhide HCX) j hj)
  have hcy1 : ∀ j, j < ys.length → w1.cell? ⟨bb2, off2 + j, none⟩ = some (.int .i64 (nth ys j)) := fun j hj => ((unhide B1).cell (block_lt_of_cell ((unhide HCY) j hj))).trans ((unhide HCY) j hj)
  have HX := hide hcx1
  have HY := hide hcy1
  clear b1 hcx1 hcy1 hwr hj0 hj1 hjt iwr ij0 ij1 ijt g0 g1 g2 g3 H1 H2 H3 hc
  go_wp2_with fail
  refine (lowerPlace_no _ _ _ xs _ _ (by omega) (by omega) (unhide HX) hin).mono ?_
  rintro e w2 ⟨rfl, n, hw⟩
  have b2 : Below w1.heap.size w1 w2 := by rw [hw]; exact bel0d' n
  clear hw
  have x0 := (b2.cell (p := ⟨w.heap.size, 0, none⟩) hs0).trans x0
  have x1 := (b2.cell (p := ⟨w.heap.size, 1, none⟩) hs0).trans x1
  have x2 := (b2.cell (p := ⟨w.heap.size, 2, none⟩) hs0).trans x2
  have e0 := (b2.cell (p := ⟨w.heap.size + 1, 0, none⟩) hs1).trans e0
  have f0 := (b2.frozen (p := ⟨w.heap.size + 1, 0, none⟩) hs1).trans f0
  have e1 := (b2.cell (p := ⟨w.heap.size + 1, 1, none⟩) hs1).trans e1
  have f1 := (b2.frozen (p := ⟨w.heap.size + 1, 1, none⟩) hs1).trans f1
  have hs0 : w.heap.size < w2.heap.size := by have := b2.size; omega
  have hs1 : w.heap.size + 1 < w2.heap.size := by have := b2.size; omega
  have B2 := hide ((unhide B1).trans (b2.mono (by omega)))
  have HX := hide (fun j hj => (b2.cell (block_lt_of_cell ((unhide HX) j hj))).trans ((unhide HX) j hj))
  have HY := hide (fun j hj => (b2.cell (block_lt_of_cell ((unhide HY) j hj))).trans ((unhide HY) j hj))
  clear b2
  go_wp2_with fail
  refine (lowerPlace_yes _ _ _ ys _ _ (by omega) (by omega) (unhide HY) hiny).mono ?_
  rintro e w3 ⟨rfl, m, hw⟩
  have b3 : Below w2.heap.size w2 w3 := by rw [hw]; exact bel0d' m
  clear hw
  have x0 := (b3.cell (p := ⟨w.heap.size, 0, none⟩) hs0).trans x0
  have x1 := (b3.cell (p := ⟨w.heap.size, 1, none⟩) hs0).trans x1
  have x2 := (b3.cell (p := ⟨w.heap.size, 2, none⟩) hs0).trans x2
  have e0 := (b3.cell (p := ⟨w.heap.size + 1, 0, none⟩) hs1).trans e0
  have f0 := (b3.frozen (p := ⟨w.heap.size + 1, 0, none⟩) hs1).trans f0
  have e1 := (b3.cell (p := ⟨w.heap.size + 1, 1, none⟩) hs1).trans e1
  have f1 := (b3.frozen (p := ⟨w.heap.size + 1, 1, none⟩) hs1).trans f1
  have hs0 : w.heap.size < w3.heap.size := by have := b3.size; omega
  have hs1 : w.heap.size + 1 < w3.heap.size := by have := b3.size; omega
  have B3 := hide ((unhide B2).trans (b3.mono (by omega)))
  have HX := hide (fun j hj => (b3.cell (block_lt_of_cell ((unhide HX) j hj))).trans ((unhide HX) j hj))
  have HY := hide (fun j hj => (b3.cell (block_lt_of_cell ((unhide HY) j hj))).trans ((unhide HY) j hj))
  clear b3
  go_wp2
  refine bodyPost_ret (v := .tuple #[.agg #[.int .i64 0, .int .i64 0], .bool false]) (by simp [results, Try.results16, go_sem, *]) rfl ⟨rfl, ?_⟩
  repeat (first | exact unhide B3 | refine Below.setCell ?_ (by simp; try omega) _)

set_option maxRecDepth 100000 in
set_option maxHeartbeats 2000000 in
theorem implAtGrid_outC (a1 a2 a3 : Option Addr) (l1 c1 l2 c2 l3 c3 : Nat) (xs ys : List Int) (zss : List (List Int)) (x y : Int) (w : World) (h1 : Row w a1 l1 xs) (h2 : Row w a2 l2 ys) (h3 : RowS w a3 l3 zss) (hc : gridB xs ys zss = true) (hin : inB x (nth xs 0) (nth xs (xs.length - 1)) = true) (hiny : inB y (nth ys 0) (nth ys (ys.length - 1)) = false) :
    Calls Try.prog 16 #[.agg #[.slice a1 l1 c1, .slice a2 l2 c2, .slice a3 l3 c3], .int .i64 x, .int .i64 y] w fun e w' => e = .returned (.tuple #[.agg #[.int .i64 0, .int .i64 0], .bool false]) ∧ Below w.heap.size w w' := by
  have F := gridB_facts hc
  have hnx := F.nx
  have hny := F.ny
  have hnz := F.nz
  have HF := hide F
  have B0 := hide (bel2 (w := w) (.cells #[.slice a1 l1 c1, .slice a2 l2 c2, .slice a3 l3 c3] 39) (.cells #[.int .i64 0, .int .i64 0] 30))
  have H1 := hide (h1.below (unhide B0))
  have H2 := hide (h2.below (unhide B0))
  have H3 := hide (h3.below (unhide B0))
  have hl1 := h1.len_eq
  have hl2 := h2.len_eq
  have hl3 := h3.len_eq
  subst hl1
  subst hl2
  subst hl3
  have hz1 : zss.length ≤ ys.length := by omega
  have hz2 : ys.length ≤ zss.length := by omega
  rcases h1.open_ with ⟨h0, _⟩ | ⟨bb1, off1, rfl, _, hcxw⟩
  · omega
  rcases h2.open_ with ⟨h0, _⟩ | ⟨bb2, off2, rfl, _, hcyw⟩
  · omega
  rcases h3.open_ with ⟨h0, _⟩ | ⟨bb3, off3, rfl, _, hczw⟩
  · omega
  have hcx := fun i hi => ((unhide B0).cell (block_lt_of_cell (hcxw i hi))).trans (hcxw i hi)
  have hcy := fun i hi => ((unhide B0).cell (block_lt_of_cell (hcyw i hi))).trans (hcyw i hi)
  have hbx : bb1 < w.heap.size := block_lt_of_cell (hcxw 0 (by omega))
  have hby : bb2 < w.heap.size := block_lt_of_cell (hcyw 0 (by omega))
  have hnx1 : ¬ (w.heap.size + 1 = bb1) := by omega
  have hny1 : ¬ (w.heap.size + 1 = bb2) := by omega
  have hnx2 : ¬ (bb1 = w.heap.size + 1) := by omega
  have hny2 : ¬ (bb2 = w.heap.size + 1) := by omega
  have g0 := hcx 0 (by omega)
  have g1 := hcx (xs.length - 1) (by omega)
  have g2 := hcy 0 (by omega)
  have g3 := hcy (ys.length - 1) (by omega)
  simp only [Nat.add_zero] at g0 g2
  have lt0 := block_lt_of_cell g0
  have lt2 := block_lt_of_cell g2
  have HCX := hide hcxw
  have HCY := hide hcyw
  have HCZ := hide hczw
  have hi0 : (0 : Int) < (xs.length : Int) := by omega
  have hwr : IntKind.i64.wrap ((xs.length : Int) - 1) = (xs.length : Int) - 1 := by rw [IntKind.wrap_i64]; omega
  have hj0 : (0 : Int) ≤ (xs.length : Int) - 1 := by omega
  have hj1 : (xs.length : Int) - 1 < (xs.length : Int) := by omega
  have hjt : ((xs.length : Int) - 1).toNat = xs.length - 1 := by omega
  have ha1 : (1 : Int) ≤ (xs.length : Int) := by omega
  have ha2 : 1 ≤ xs.length := by omega
  have ha3 : 0 < xs.length := by omega
  have ii0 : (0 : Int) < (ys.length : Int) := by omega
  have iwr : IntKind.i64.wrap ((ys.length : Int) - 1) = (ys.length : Int) - 1 := by rw [IntKind.wrap_i64]; omega
  have ij0 : (0 : Int) ≤ (ys.length : Int) - 1 := by omega
  have ij1 : (ys.length : Int) - 1 < (ys.length : Int) := by omega
  have ijt : ((ys.length : Int) - 1).toNat = ys.length - 1 := by omega
  have ia1 : (1 : Int) ≤ (ys.length : Int) := by omega
  have ia2 : 1 ≤ ys.length := by omega
  have ia3 : 0 < ys.length := by omega
  clear F h1 h2 h3 hcxw hcyw hczw hcx hcy hnz
  go_enter Try.func16, Try.ntmps16
  go_wp2_with fail
  refine (implGridOk_is _ _ _ _ _ _ _ _ _ xs ys zss _ hc (unhide H1) (unhide H2) (unhide H3)).mono ?_
  rintro e w1 ⟨rfl, b1⟩
  have e0 : w1.cell? ⟨w.heap.size + 1, 0, none⟩ = some (.int .i64 0) := (b1.cell (p := ⟨w.heap.size + 1, 0, none⟩) (by simp)).trans (by simp [go_sem])
  have e1 : w1.cell? ⟨w.heap.size + 1, 1, none⟩ = some (.int .i64 0) := (b1.cell (p := ⟨w.heap.size + 1, 1, none⟩) (by simp)).trans (by simp [go_sem])
  have f0 : w1.frozen? ⟨w.heap.size + 1, 0, none⟩ = false := (b1.frozen (p := ⟨w.heap.size + 1, 0, none⟩) (by simp)).trans (by simp [go_sem])
  have f1 : w1.frozen? ⟨w.heap.size + 1, 1, none⟩ = false := (b1.frozen (p := ⟨w.heap.size + 1, 1, none⟩) (by simp)).trans (by simp [go_sem])
  have x0 : w1.cell? ⟨w.heap.size, 0, none⟩ = some (.slice (some ⟨bb1, off1, none⟩) xs.length c1) := (b1.cell (p := ⟨w.heap.size, 0, none⟩) (by simp; omega)).trans (by simp [go_sem])
  have x1 : w1.cell? ⟨w.heap.size, 1, none⟩ = some (.slice (some ⟨bb2, off2, none⟩) ys.length c2) := (b1.cell (p := ⟨w.heap.size, 1, none⟩) (by simp; omega)).trans (by simp [go_sem])
  have x2 : w1.cell? ⟨w.heap.size, 2, none⟩ = some (.slice (some ⟨bb3, off3, none⟩) zss.length c3) := (b1.cell (p := ⟨w.heap.size, 2, none⟩) (by simp; omega)).trans (by simp [go_sem])
  have hs1 : w.heap.size + 1 < w1.heap.size := by have := b1.size; simp at this; omega
  have hs0 : w.heap.size < w1.heap.size := by omega
  have B1 := hide ((unhide B0).trans (b1.mono (by simp; omega)))
  have hcx1 : ∀ j, j < xs.length → w1.cell? ⟨bb1, off1 + j, none⟩ = some (.int .i64 (nth xs j)) := fun j hj => ((unhide B1).cell (block_lt_of_cell ((unhide HCX) j hj))).trans ((unhide HCX) j hj)
  have hcy1 : ∀ j, j < ys.length → w1.cell? ⟨bb2, off2 + j, none⟩ = some (.int .i64 (nth ys j)) := fun j hj => ((unhide B1).cell (block_lt_of_cell ((unhide HCY) j hj))).trans ((unhide HCY) j hj)
  have HX := hide hcx1
  have HY := hide hcy1
  clear b1 hcx1 hcy1 hwr hj0 hj1 hjt iwr ij0 ij1 ijt g0 g1 g2 g3 H1 H2 H3 hc
  go_wp2_with fail
  refine (lowerPlace_yes _ _ _ xs _ _ (by omega) (by omega) (unhide HX) hin).mono ?_
  rintro e w2 ⟨rfl, n, hw⟩
  have b2 : Below w1.heap.size w1 w2 := by rw [hw]; exact bel0d' n
  clear hw
  have x0 := (b2.cell (p := ⟨w.heap.size, 0, none⟩) hs0).trans x0
  have x1 := (b2.cell (p := ⟨w.heap.size, 1, none⟩) hs0).trans x1
  have x2 := (b2.cell (p := ⟨w.heap.size, 2, none⟩) hs0).trans x2
  have e0 := (b2.cell (p := ⟨w.heap.size + 1, 0, none⟩) hs1).trans e0
  have f0 := (b2.frozen (p := ⟨w.heap.size + 1, 0, none⟩) hs1).trans f0
  have e1 := (b2.cell (p := ⟨w.heap.size + 1, 1, none⟩) hs1).trans e1
  have f1 := (b2.frozen (p := ⟨w.heap.size + 1, 1, none⟩) hs1).trans f1
  have hs0 : w.heap.size < w2.heap.size := by have := b2.size; omega
  have hs1 : w.heap.size + 1 < w2.heap.size := by have := b2.size; omega
  have B2 := hide ((unhide B1).trans (b2.mono (by omega)))
  have HX := hide (fun j hj => (b2.cell (block_lt_of_cell ((unhide HX) j hj))).trans ((unhide HX) j hj))
  have HY := hide (fun j hj => (b2.cell (block_lt_of_cell ((unhide HY) j hj))).trans ((unhide HY) j hj))
  clear b2
  go_wp2_with fail
  refine (lowerPlace_no _ _ _ ys _ _ (by omega) (by omega) (unhide HY) hiny).mono ?_
  rintro e w3 ⟨rfl, m, hw⟩
  have b3 : Below w2.heap.size w2 w3 := by rw [hw]; exact bel0d' m
  clear hw
  have x0 := (b3.cell (p := ⟨w.heap.size, 0, none⟩) hs0).trans x0
  have x1 := (b3.cell (p := ⟨w.heap.size, 1, none⟩) hs0).trans x1
  have x2 := (b3.cell (p := ⟨w.heap.size, 2, none⟩) hs0).trans x2
  have e0 := (b3.cell (p := ⟨w.heap.size + 1, 0, none⟩) hs1).trans e0
  have f0 := (b3.frozen (p := ⟨w.heap.size + 1, 0, none⟩) hs1).trans f0
  have e1 := (b3.cell (p := ⟨w.heap.size + 1, 1, none⟩) hs1).trans e1
  have f1 := (b3.frozen (p := ⟨w.heap.size + 1, 1, none⟩) hs1).trans f1
  have hs0 : w.heap.size < w3.heap.size := by have := b3.size; omega
  have hs1 : w.heap.size + 1 < w3.heap.size := by have := b3.size; omega
  have B3 := hide ((unhide B2).trans (b3.mono (by omega)))
  have HX := hide (fun j hj => (b3.cell (block_lt_of_cell ((unhide HX) j hj))).trans ((unhide HX) j hj))
  have HY := hide (fun j hj => (b3.cell (block_lt_of_cell ((unhide HY) j hj))).trans ((unhide HY) j hj))
  clear b3
  go_wp2
  refine bodyPost_ret (v := .tuple #[.agg #[.int .i64 0, .int .i64 0], .bool false]) (by simp [results, Try.results16, go_sem, *]) rfl ⟨rfl, ?_⟩
  repeat (first | exact unhide B3 | refine Below.setCell ?_ (by simp; try omega) _)

end Go.Proofs.Ytbaocifpifbldaa
