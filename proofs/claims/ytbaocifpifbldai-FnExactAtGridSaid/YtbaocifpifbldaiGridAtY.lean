/-
  What AtGrid answers in the model where the place is right along X: the zero value and false outside Y.
-/
import Derived.Test.YtbaocifpifbldaiGridAt
import Derived.Deep.DrawnRows
namespace Go.Proofs.Ytbaocifpifbldai
open Go.RowKit
attribute [local go_sem ↓] Go.wp_at_zero Go.wp_at_succ

set_option maxRecDepth 100000 in
set_option maxHeartbeats 4000000 in
theorem specAtGrid_outY (a1 a2 a3 : Option Addr) (l1 c1 l2 c2 l3 c3 : Nat) (xs ys : List Int) (zss : List (List Int)) (x y : Int) (w : World) (h1 : Row w a1 l1 xs) (h2 : Row w a2 l2 ys) (h3 : RowS w a3 l3 zss) (hc : gridB xs ys zss = true) (hin : inB x (nth xs 0) (nth xs (xs.length - 1)) = true) (hiny : inB y (nth ys 0) (nth ys (ys.length - 1)) = false) :
    Calls Try.prog 14 #[.agg #[.slice a1 l1 c1, .slice a2 l2 c2, .slice a3 l3 c3], .int .i64 x, .int .i64 y] w fun e w' => e = .returned (.tuple #[.agg #[.int .i64 0, .int .i64 0], .bool false]) ∧ Below w.heap.size w w' := by
  have F := gridB_facts hc
  have hnx := F.nx
  have hny := F.ny
  have hnz := F.nz
  have HF := hide F
  have B0 := hide (bel2 (w := w) (.cells #[.slice a1 l1 c1, .slice a2 l2 c2, .slice a3 l3 c3] 28) (.cells #[.int .i64 0, .int .i64 0] 33))
  have H1 := hide (h1.below (unhide B0))
  have H2 := hide (h2.below (unhide B0))
  have H3 := hide (h3.below (unhide B0))
  have hl1 := h1.len_eq
  have hl2 := h2.len_eq
  have hl3 := h3.len_eq
  subst hl1
  subst hl2
  subst hl3
  have hz1 : zss.length ≤ ys.length := by omega
  have hz2 : ys.length ≤ zss.length := by omega
  rcases h1.open_ with ⟨h0, _⟩ | ⟨bb1, off1, rfl, _, hcxw⟩
  · omega
  rcases h2.open_ with ⟨h0, _⟩ | ⟨bb2, off2, rfl, _, hcyw⟩
  · omega
  rcases h3.open_ with ⟨h0, _⟩ | ⟨bb3, off3, rfl, _, hczw⟩
  · omega
  have hcx := fun i hi => ((unhide B0).cell (block_lt_of_cell (hcxw i hi))).trans (hcxw i hi)
  have hcy := fun i hi => ((unhide B0).cell (block_lt_of_cell (hcyw i hi))).trans (hcyw i hi)
  have hbx : bb1 < w.heap.size := block_lt_of_cell (hcxw 0 (by omega))
  have hby : bb2 < w.heap.size := block_lt_of_cell (hcyw 0 (by omega))
  have hnx1 : ¬ (w.heap.size + 1 = bb1) := by omega
  have hny1 : ¬ (w.heap.size + 1 = bb2) := by omega
  have hnx2 : ¬ (bb1 = w.heap.size + 1) := by omega
  have hny2 : ¬ (bb2 = w.heap.size + 1) := by omega
  have g0 := hcx 0 (by omega)
  have g1 := hcx (xs.length - 1) (by omega)
  have g2 := hcy 0 (by omega)
  have g3 := hcy (ys.length - 1) (by omega)
  simp only [Nat.add_zero] at g0 g2
  have lt0 := block_lt_of_cell g0
  have lt2 := block_lt_of_cell g2
  have HCX := hide hcxw
  have HCY := hide hcyw
  have HCZ := hide hczw
  have hi0 : (0 : Int) < (xs.length : Int) := by omega
  have hwr : IntKind.i64.wrap ((xs.length : Int) - 1) = (xs.length : Int) - 1 := by rw [IntKind.wrap_i64]; omega
  have hj0 : (0 : Int) ≤ (xs.length : Int) - 1 := by omega
  have hj1 : (xs.length : Int) - 1 < (xs.length : Int) := by omega
  have hjt : ((xs.length : Int) - 1).toNat = xs.length - 1 := by omega
  have ha1 : (1 : Int) ≤ (xs.length : Int) := by omega
  have ha2 : 1 ≤ xs.length := by omega
  have ha3 : 0 < xs.length := by omega
  have ii0 : (0 : Int) < (ys.length : Int) := by omega
  have iwr : IntKind.i64.wrap ((ys.length : Int) - 1) = (ys.length : Int) - 1 := by rw [IntKind.wrap_i64]; omega
  have ij0 : (0 : Int) ≤ (ys.length : Int) - 1 := by omega
  have ij1 : (ys.length : Int) - 1 < (ys.length : Int) := by omega
  have ijt : ((ys.length : Int) - 1).toNat = ys.length - 1 := by omega
  have ia1 : (1 : Int) ≤ (ys.length : Int) := by omega
  have ia2 : 1 ≤ ys.length := by omega
  have ia3 : 0 < ys.length := by omega
  clear F h1 h2 h3 hcxw hcyw hczw hcx hcy hnz
  have x0 : ((w.alloc (.cells #[.slice (some ⟨bb1, off1, none⟩) xs.length c1, .slice (some ⟨bb2, off2, none⟩) ys.length c2, .slice (some ⟨bb3, off3, none⟩) zss.length c3] 28)).alloc (.cells #[.int .i64 0, .int .i64 0] 33)).cell? ⟨w.heap.size, 0, none⟩ = some (.slice (some ⟨bb1, off1, none⟩) xs.length c1) := by simp [go_sem]
  have x1 : ((w.alloc (.cells #[.slice (some ⟨bb1, off1, none⟩) xs.length c1, .slice (some ⟨bb2, off2, none⟩) ys.length c2, .slice (some ⟨bb3, off3, none⟩) zss.length c3] 28)).alloc (.cells #[.int .i64 0, .int .i64 0] 33)).cell? ⟨w.heap.size, 1, none⟩ = some (.slice (some ⟨bb2, off2, none⟩) ys.length c2) := by simp [go_sem]
  have x2 : ((w.alloc (.cells #[.slice (some ⟨bb1, off1, none⟩) xs.length c1, .slice (some ⟨bb2, off2, none⟩) ys.length c2, .slice (some ⟨bb3, off3, none⟩) zss.length c3] 28)).alloc (.cells #[.int .i64 0, .int .i64 0] 33)).cell? ⟨w.heap.size, 2, none⟩ = some (.slice (some ⟨bb3, off3, none⟩) zss.length c3) := by simp [go_sem]
  go_enter Try.func14, Try.ntmps14
  go_wp2_with fail
  go_region_held3 (fun w' => w'.cell? ⟨w.heap.size, 0, none⟩ = some (.slice (some ⟨bb1, off1, none⟩) xs.length c1) ∧ w'.cell? ⟨w.heap.size, 1, none⟩ = some (.slice (some ⟨bb2, off2, none⟩) ys.length c2) ∧ w'.cell? ⟨w.heap.size, 2, none⟩ = some (.slice (some ⟨bb3, off3, none⟩) zss.length c3) ∧ w'.cell? ⟨bb1, off1, none⟩ = some (.int .i64 (nth xs 0)) ∧ w'.cell? ⟨bb1, off1 + (xs.length - 1), none⟩ = some (.int .i64 (nth xs (xs.length - 1))) ∧ w'.cell? ⟨bb2, off2, none⟩ = some (.int .i64 (nth ys 0)) ∧ w'.cell? ⟨bb2, off2 + (ys.length - 1), none⟩ = some (.int .i64 (nth ys (ys.length - 1)))) (go_keep)
    (first
      | (go_at_call 10; refine (specGridOk_is _ _ _ _ _ _ _ _ _ xs ys zss _ hc ((unhide H1).drewN 1) ((unhide H2).drewN 1) ((unhide H3).drewN 1)).mono ?_; rintro e w1 ⟨rfl, b1⟩; have x0 := (b1.cell (p := ⟨w.heap.size, 0, none⟩) (by simp; omega)).trans x0; have x1 := (b1.cell (p := ⟨w.heap.size, 1, none⟩) (by simp; omega)).trans x1; have x2 := (b1.cell (p := ⟨w.heap.size, 2, none⟩) (by simp; omega)).trans x2; have g0 := (b1.cell (p := ⟨bb1, off1, none⟩) lt0).trans g0; have g1 := (b1.cell (p := ⟨bb1, off1 + (xs.length - 1), none⟩) lt0).trans g1; have g2 := (b1.cell (p := ⟨bb2, off2, none⟩) lt2).trans g2; have g3 := (b1.cell (p := ⟨bb2, off2 + (ys.length - 1), none⟩) lt2).trans g3)
      | (go_at_call_of 34 (Value.int IntKind.i64 (nth xs 0)); refine (l1In_is _ _ _ _ hin).mono ?_; rintro e w' ⟨rfl, hw⟩; subst w')
      | (go_at_call_of 34 (Value.int IntKind.i64 (nth ys 0)); refine (l1In_is _ _ _ _ hiny).mono ?_; rintro e w' ⟨rfl, hw⟩; subst w'))
  have e0 : w1.cell? ⟨w.heap.size + 1, 0, none⟩ = some (.int .i64 0) := (b1.cell (p := ⟨w.heap.size + 1, 0, none⟩) (by simp)).trans (by simp [go_sem])
  have e1 : w1.cell? ⟨w.heap.size + 1, 1, none⟩ = some (.int .i64 0) := (b1.cell (p := ⟨w.heap.size + 1, 1, none⟩) (by simp)).trans (by simp [go_sem])
  have f0 : w1.frozen? ⟨w.heap.size + 1, 0, none⟩ = false := (b1.frozen (p := ⟨w.heap.size + 1, 0, none⟩) (by simp)).trans (by simp [go_sem])
  have f1 : w1.frozen? ⟨w.heap.size + 1, 1, none⟩ = false := (b1.frozen (p := ⟨w.heap.size + 1, 1, none⟩) (by simp)).trans (by simp [go_sem])
  have B1 := hide (((unhide B0).trans (bel0d' 1)).trans (b1.mono (by simp; omega)))
  clear b1
  go_wp2
  refine bodyPost_ret (v := .tuple #[.agg #[.int .i64 0, .int .i64 0], .bool false]) (by simp [results, Try.results14, go_sem, *]) rfl ⟨rfl, ?_⟩
  repeat (first | exact unhide B1 | refine Below.setCell ?_ (by simp; try omega) _)

end Go.Proofs.Ytbaocifpifbldai
