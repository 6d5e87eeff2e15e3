/-
  What At answers in the model: the plain fraction and flag at every curve and place; nothing that was there is written.
-/
import Derived.Test.YtbaocifpifbldahAtPure
import Derived.Test.YtbaocifpifbldahLow
import Derived.Deep.DrawnRows
namespace Go.Proofs.Ytbaocifpifbldah
open Go.RowKit
attribute [local go_sem ↓] Go.wp_at_zero Go.wp_at_succ

set_option maxHeartbeats 1000000 in
theorem specAt_no (a1 a2 : Option Addr) (l1 c1 l2 c2 : Nat) (xs ys : List Int) (x : Int) (w : World) (h1 : Row w a1 l1 xs) (h2 : Row w a2 l2 ys) (hc : curveB xs ys = false) :
    Calls Try.prog 12 #[.agg #[.slice a1 l1 c1, .slice a2 l2 c2], .int .i64 x] w fun e w' => e = .returned (.tuple #[.agg #[.int .i64 0, .int .i64 0], .bool false]) ∧ Below w.heap.size w w' := by
  have H1 := hide ((h1.alloc (.cells #[.slice a1 l1 c1, .slice a2 l2 c2] 27)).alloc (.cells #[.int .i64 0, .int .i64 0] 32))
  have H2 := hide ((h2.alloc (.cells #[.slice a1 l1 c1, .slice a2 l2 c2] 27)).alloc (.cells #[.int .i64 0, .int .i64 0] 32))
  have B0 := hide (bel2 (w := w) (.cells #[.slice a1 l1 c1, .slice a2 l2 c2] 27) (.cells #[.int .i64 0, .int .i64 0] 32))
  clear h1 h2
  go_enter Try.func12, Try.ntmps12
  go_wp2_with fail
  refine wp_region_any (by kernel_rfl) ?_
  change wpAny _ _ _ _ _ _ _ (World.drew _)
  refine wpAny_ready (rs := [0]) (by kernel_rfl) (by simp) ?_
  refine AllReady.cons rfl (fun K hK => ?_) AllReady.nil
  go_simp
  refine hK _ _ ?_
  clear hK K
  refine wpAny_ready (rs := [1]) (by kernel_rfl) (by simp) ?_
  refine AllReady.cons rfl (fun K hK => ?_) AllReady.nil
  go_simp
  go_wp2_with (go_at_call 8; refine (specCurveOk_is _ _ _ _ _ _ xs ys _ hc ((unhide H1).drewN 1) ((unhide H2).drewN 1)).mono ?_; rintro e w1 ⟨rfl, b1⟩)
  refine wpAny_ready (rs := [2]) (by kernel_rfl) (by simp) ?_
  refine AllReady.cons rfl (fun K hK => ?_) AllReady.nil
  go_simp
  refine hK _ _ ?_
  clear hK K
  refine wpAny_ready (rs := [3]) (by kernel_rfl) (by simp) ?_
  refine AllReady.cons rfl (fun K hK => ?_) AllReady.nil
  go_simp
  refine hK _ _ ?_
  clear hK K
  refine wpAny_take (i := 4) (v := undef) rfl (by kernel_rfl) (by kernel_rfl) (by kernel_rfl) (fun _ _ _ h => h) (Or.inr ⟨by kernel_rfl, rfl⟩) ?_
  refine wpAny_take (i := 5) (v := undef) rfl (by kernel_rfl) (by kernel_rfl) (by kernel_rfl) (fun _ _ _ h => h) (Or.inr ⟨by kernel_rfl, rfl⟩) ?_
  refine wpAny_take (i := 6) (v := undef) rfl (by kernel_rfl) (by kernel_rfl) (by kernel_rfl) (fun _ _ _ h => h) (Or.inr ⟨by kernel_rfl, rfl⟩) ?_
  refine wpAny_take (i := 7) (v := undef) rfl (by kernel_rfl) (by kernel_rfl) (by kernel_rfl) (fun _ _ _ h => h) (Or.inr ⟨by kernel_rfl, rfl⟩) ?_
  refine wpAny_take (i := 8) (v := undef) rfl (by kernel_rfl) (by kernel_rfl) (by kernel_rfl) (fun _ _ _ h => h) (Or.inr ⟨by kernel_rfl, rfl⟩) ?_
  refine wpAny_take (i := 9) (v := undef) rfl (by kernel_rfl) (by kernel_rfl) (by kernel_rfl) (fun _ _ _ h => h) (Or.inr ⟨by kernel_rfl, rfl⟩) ?_
  refine wpAny_take (i := 10) (v := undef) rfl (by kernel_rfl) (by kernel_rfl) (by kernel_rfl) (fun _ _ _ h => h) (Or.inr ⟨by kernel_rfl, rfl⟩) ?_
  refine wpAny_take (i := 11) (v := undef) rfl (by kernel_rfl) (by kernel_rfl) (by kernel_rfl) (fun _ _ _ h => h) (Or.inr ⟨by kernel_rfl, rfl⟩) ?_
  refine wpAny_take (i := 12) (v := undef) rfl (by kernel_rfl) (by kernel_rfl) (by kernel_rfl) (fun _ _ _ h => h) (Or.inr ⟨by kernel_rfl, rfl⟩) ?_
  refine wpAny_take (i := 13) (v := undef) rfl (by kernel_rfl) (by kernel_rfl) (by kernel_rfl) (fun _ _ _ h => h) (Or.inr ⟨by kernel_rfl, rfl⟩) ?_
  refine wpAny_take (i := 14) (v := undef) rfl (by kernel_rfl) (by kernel_rfl) (by kernel_rfl) (fun _ _ _ h => h) (Or.inr ⟨by kernel_rfl, rfl⟩) ?_
  refine wpAny_take (i := 15) (v := undef) rfl (by kernel_rfl) (by kernel_rfl) (by kernel_rfl) (fun _ _ _ h => h) (Or.inr ⟨by kernel_rfl, rfl⟩) ?_
  refine wpAny_take (i := 16) (v := undef) rfl (by kernel_rfl) (by kernel_rfl) (by kernel_rfl) (fun _ _ _ h => h) (Or.inr ⟨by kernel_rfl, rfl⟩) ?_
  refine wpAny_take (i := 17) (v := undef) rfl (by kernel_rfl) (by kernel_rfl) (by kernel_rfl) (fun _ _ _ h => h) (Or.inr ⟨by kernel_rfl, rfl⟩) ?_
  refine wpAny_take (i := 18) (v := undef) rfl (by kernel_rfl) (by kernel_rfl) (by kernel_rfl) (fun _ _ _ h => h) (Or.inr ⟨by kernel_rfl, rfl⟩) ?_
  refine wpAny_ready (rs := [19]) (by kernel_rfl) (by simp) ?_
  refine AllReady.cons rfl (fun K hK => ?_) AllReady.nil
  go_simp
  refine hK _ _ ?_
  clear hK K
  refine wpAny_done (by kernel_rfl) ?_ _
  have e0 : w1.cell? ⟨w.heap.size + 1, 0, none⟩ = some (.int .i64 0) := (b1.cell (p := ⟨w.heap.size + 1, 0, none⟩) (by simp)).trans (by simp [go_sem])
  have e1 : w1.cell? ⟨w.heap.size + 1, 1, none⟩ = some (.int .i64 0) := (b1.cell (p := ⟨w.heap.size + 1, 1, none⟩) (by simp)).trans (by simp [go_sem])
  have f0 : w1.frozen? ⟨w.heap.size + 1, 0, none⟩ = false := (b1.frozen (p := ⟨w.heap.size + 1, 0, none⟩) (by simp)).trans (by simp [go_sem])
  have f1 : w1.frozen? ⟨w.heap.size + 1, 1, none⟩ = false := (b1.frozen (p := ⟨w.heap.size + 1, 1, none⟩) (by simp)).trans (by simp [go_sem])
  have B1 := hide (((unhide B0).trans (bel0d' 1)).trans (b1.mono (by simp; omega)))
  clear b1
  go_wp2
  refine bodyPost_ret (v := .tuple #[.agg #[.int .i64 0, .int .i64 0], .bool false]) (by simp [results, Try.results12, go_sem, *]) rfl ⟨rfl, ?_⟩
  repeat (first | exact unhide B1 | refine Below.setCell ?_ (by simp; try omega) _)

set_option maxHeartbeats 1000000 in
theorem specAt_out (a1 a2 : Option Addr) (l1 c1 l2 c2 : Nat) (xs ys : List Int) (x : Int) (w : World) (h1 : Row w a1 l1 xs) (h2 : Row w a2 l2 ys) (hc : curveB xs ys = true) (hin : inB x (nth xs 0) (nth xs (xs.length - 1)) = false) :
    Calls Try.prog 12 #[.agg #[.slice a1 l1 c1, .slice a2 l2 c2], .int .i64 x] w fun e w' => e = .returned (.tuple #[.agg #[.int .i64 0, .int .i64 0], .bool false]) ∧ Below w.heap.size w w' := by
  have F := curveB_facts hc
  have hn := F.many
  have hlen := F.len
  have HF := hide F
  have HL := hide hlen
  have hn2 : 2 ≤ ys.length := by omega
  have hn3 : ys.length ≤ 20 := by omega
  have hle1 : xs.length ≤ ys.length := by omega
  have hle2 : ys.length ≤ xs.length := by omega
  have H1 := hide ((h1.alloc (.cells #[.slice a1 l1 c1, .slice a2 l2 c2] 27)).alloc (.cells #[.int .i64 0, .int .i64 0] 32))
  have H2 := hide ((h2.alloc (.cells #[.slice a1 l1 c1, .slice a2 l2 c2] 27)).alloc (.cells #[.int .i64 0, .int .i64 0] 32))
  have B0 := hide (bel2 (w := w) (.cells #[.slice a1 l1 c1, .slice a2 l2 c2] 27) (.cells #[.int .i64 0, .int .i64 0] 32))
  have hl1 := h1.len_eq
  have hl2 := h2.len_eq
  subst hl1
  subst hl2
  rcases h1.open_ with ⟨h0, _⟩ | ⟨bb1, off1, rfl, _, hcxw⟩
  · omega
  rcases h2.open_ with ⟨h0, _⟩ | ⟨bb, off, rfl, _, hcyw⟩
  · omega
  have hcx := fun i hi => ((unhide B0).cell (block_lt_of_cell (hcxw i hi))).trans (hcxw i hi)
  have hcy := fun i hi => ((unhide B0).cell (block_lt_of_cell (hcyw i hi))).trans (hcyw i hi)
  have hbx : bb1 < w.heap.size := block_lt_of_cell (hcxw 0 (by omega))
  have hby : bb < w.heap.size := block_lt_of_cell (hcyw 0 (by omega))
  have hnx : ¬ (w.heap.size + 1 = bb1) := by omega
  have hny : ¬ (w.heap.size + 1 = bb) := by omega
  have hnx2 : ¬ (bb1 = w.heap.size + 1) := by omega
  have hny2 : ¬ (bb = w.heap.size + 1) := by omega
  clear F hlen h1 h2 hcxw hcyw
  have HCX := hide hcx
  have HCY := hide hcy
  have g0 := hcx 0 (by omega)
  have g1 := hcx (xs.length - 1) (by omega)
  simp only [Nat.add_zero] at g0
  have lt0 := block_lt_of_cell g0
  have hi0 : (0 : Int) < (xs.length : Int) := by omega
  have hwr : IntKind.i64.wrap ((xs.length : Int) - 1) = (xs.length : Int) - 1 := by rw [IntKind.wrap_i64]; omega
  have hj0 : (0 : Int) ≤ (xs.length : Int) - 1 := by omega
  have hj1 : (xs.length : Int) - 1 < (xs.length : Int) := by omega
  have hjt : ((xs.length : Int) - 1).toNat = xs.length - 1 := by omega
  have ha1 : (1 : Int) ≤ (xs.length : Int) := by omega
  have ha2 : 1 ≤ xs.length := by omega
  have ha3 : 0 < xs.length := by omega
  clear hcx hcy
  have x0 : ((w.alloc (.cells #[.slice (some ⟨bb1, off1, none⟩) xs.length c1, .slice (some ⟨bb, off, none⟩) ys.length c2] 27)).alloc (.cells #[.int .i64 0, .int .i64 0] 32)).cell? ⟨w.heap.size, 0, none⟩ = some (.slice (some ⟨bb1, off1, none⟩) xs.length c1) := by simp [go_sem]
  have x1 : ((w.alloc (.cells #[.slice (some ⟨bb1, off1, none⟩) xs.length c1, .slice (some ⟨bb, off, none⟩) ys.length c2] 27)).alloc (.cells #[.int .i64 0, .int .i64 0] 32)).cell? ⟨w.heap.size, 1, none⟩ = some (.slice (some ⟨bb, off, none⟩) ys.length c2) := by simp [go_sem]
  go_enter Try.func12, Try.ntmps12
  go_wp2_with fail
  go_region_held3 (fun w' => w'.cell? ⟨w.heap.size, 0, none⟩ = some (.slice (some ⟨bb1, off1, none⟩) xs.length c1) ∧ w'.cell? ⟨w.heap.size, 1, none⟩ = some (.slice (some ⟨bb, off, none⟩) ys.length c2) ∧ w'.cell? ⟨bb1, off1, none⟩ = some (.int .i64 (nth xs 0)) ∧ w'.cell? ⟨bb1, off1 + (xs.length - 1), none⟩ = some (.int .i64 (nth xs (xs.length - 1)))) (go_keep)
    (first
      | (go_at_call 8; refine (specCurveOk_is _ _ _ _ _ _ xs ys _ hc ((unhide H1).drewN 1) ((unhide H2).drewN 1)).mono ?_; rintro e w1 ⟨rfl, b1⟩; have x0 := (b1.cell (p := ⟨w.heap.size, 0, none⟩) (by simp; omega)).trans x0; have x1 := (b1.cell (p := ⟨w.heap.size, 1, none⟩) (by simp; omega)).trans x1; have g0 := (b1.cell (p := ⟨bb1, off1, none⟩) lt0).trans g0; have g1 := (b1.cell (p := ⟨bb1, off1 + (xs.length - 1), none⟩) lt0).trans g1)
      | (go_at_call 20; refine (l1In_is _ _ _ _ hin).mono ?_; rintro e w' ⟨rfl, hw⟩; subst w'))
  have e0 : w1.cell? ⟨w.heap.size + 1, 0, none⟩ = some (.int .i64 0) := (b1.cell (p := ⟨w.heap.size + 1, 0, none⟩) (by simp)).trans (by simp [go_sem])
  have e1 : w1.cell? ⟨w.heap.size + 1, 1, none⟩ = some (.int .i64 0) := (b1.cell (p := ⟨w.heap.size + 1, 1, none⟩) (by simp)).trans (by simp [go_sem])
  have f0 : w1.frozen? ⟨w.heap.size + 1, 0, none⟩ = false := (b1.frozen (p := ⟨w.heap.size + 1, 0, none⟩) (by simp)).trans (by simp [go_sem])
  have f1 : w1.frozen? ⟨w.heap.size + 1, 1, none⟩ = false := (b1.frozen (p := ⟨w.heap.size + 1, 1, none⟩) (by simp)).trans (by simp [go_sem])
  have B1 := hide (((unhide B0).trans (bel0d' 1)).trans (b1.mono (by simp; omega)))
  clear b1
  go_wp2
  refine bodyPost_ret (v := .tuple #[.agg #[.int .i64 0, .int .i64 0], .bool false]) (by simp [results, Try.results12, go_sem, *]) rfl ⟨rfl, ?_⟩
  repeat (first | exact unhide B1 | refine Below.setCell ?_ (by simp; try omega) _)

end Go.Proofs.Ytbaocifpifbldah
