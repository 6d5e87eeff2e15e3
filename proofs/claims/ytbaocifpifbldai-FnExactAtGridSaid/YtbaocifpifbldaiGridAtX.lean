/-
  What AtGrid answers in the model where it refuses: the zero value and false; nothing that was there is written.
-/
import Derived.Test.YtbaocifpifbldaiGridAt
import Derived.Deep.DrawnRows
namespace Go.Proofs.Ytbaocifpifbldai
open Go.RowKit
attribute [local go_sem ↓] Go.wp_at_zero Go.wp_at_succ

set_option maxRecDepth 100000 in
set_option maxHeartbeats 2000000 in
theorem specAtGrid_outX (a1 a2 a3 : Option Addr) (l1 c1 l2 c2 l3 c3 : Nat) (xs ys : List Int) (zss : List (List Int)) (x y : Int) (w : World) (h1 : Row w a1 l1 xs) (h2 : Row w a2 l2 ys) (h3 : RowS w a3 l3 zss) (hc : gridB xs ys zss = true) (hin : inB x (nth xs 0) (nth xs (xs.length - 1)) = false) :
    Calls Try.prog 14 #[.agg #[.slice a1 l1 c1, .slice a2 l2 c2, .slice a3 l3 c3], .int .i64 x, .int .i64 y] w fun e w' => e = .returned (.tuple #[.agg #[.int .i64 0, .int .i64 0], .bool false]) ∧ Below w.heap.size w w' := by
  have F := gridB_facts hc
  have hnx := F.nx
  have hny := F.ny
  have hnz := F.nz
  have HF := hide F
  have B0 := hide (bel2 (w := w) (.cells #[.slice a1 l1 c1, .slice a2 l2 c2, .slice a3 l3 c3] 28) (.cells #[.int .i64 0, .int .i64 0] 33))
  have H1 := hide (h1.below (unhide B0))
  have H2 := hide (h2.below (unhide B0))
  have H3 := hide (h3.below (unhide B0))
  have hl1 := h1.len_eq
  have hl2 := h2.len_eq
  have hl3 := h3.len_eq
  subst hl1
  subst hl2
  subst hl3
  have hz1 : zss.length ≤ ys.length := by omega
  have hz2 : ys.length ≤ zss.length := by omega
  rcases h1.open_ with ⟨h0, _⟩ | ⟨bb1, off1, rfl, _, hcxw⟩
  · omega
  rcases h2.open_ with ⟨h0, _⟩ | ⟨bb2, off2, rfl, _, hcyw⟩
  · omega
  rcases h3.open_ with ⟨h0, _⟩ | ⟨bb3, off3, rfl, _, hczw⟩
  · omega
  have hcx := fun i hi => ((unhide B0).cell (block_lt_of_cell (hcxw i hi))).trans (hcxw i hi)
  have hcy := fun i hi => ((unhide B0).cell (block_lt_of_cell (hcyw i hi))).trans (hcyw i hi)
  have hbx : bb1 < w.heap.size := block_lt_of_cell (hcxw 0 (by omega))
  have hby : bb2 < w.heap.size := block_lt_of_cell (hcyw 0 (by omega))
  have hnx1 : ¬ (w.heap.size + 1 = bb1) := by omega
  have hny1 : ¬ (w.heap.size + 1 = bb2) := by omega
  have hnx2 : ¬ (bb1 = w.heap.size + 1) := by omega
  have hny2 : ¬ (bb2 = w.heap.size + 1) := by omega
  have g0 := hcx 0 (by omega)
  have g1 := hcx (xs.length - 1) (by omega)
  have g2 := hcy 0 (by omega)
  have g3 := hcy (ys.length - 1) (by omega)
  simp only [Nat.add_zero] at g0 g2
  have lt0 := block_lt_of_cell g0
  have lt2 := block_lt_of_cell g2
  have HCX := hide hcxw
  have HCY := hide hcyw
  have HCZ := hide hczw
  have hi0 : (0 : Int) < (xs.length : Int) := by omega
  have hwr : IntKind.i64.wrap ((xs.length : Int) - 1) = (xs.length : Int) - 1 := by rw [IntKind.wrap_i64]; omega
  have hj0 : (0 : Int) ≤ (xs.length : Int) - 1 := by omega
  have hj1 : (xs.length : Int) - 1 < (xs.length : Int) := by omega
  have hjt : ((xs.length : Int) - 1).toNat = xs.length - 1 := by omega
  have ha1 : (1 : Int) ≤ (xs.length : Int) := by omega
  have ha2 : 1 ≤ xs.length := by omega
  have ha3 : 0 < xs.length := by omega
  have ii0 : (0 : Int) < (ys.length : Int) := by omega
  have iwr : IntKind.i64.wrap ((ys.length : Int) - 1) = (ys.length : Int) - 1 := by rw [IntKind.wrap_i64]; omega
  have ij0 : (0 : Int) ≤ (ys.length : Int) - 1 := by omega
  have ij1 : (ys.length : Int) - 1 < (ys.length : Int) := by omega
  have ijt : ((ys.length : Int) - 1).toNat = ys.length - 1 := by omega
  have ia1 : (1 : Int) ≤ (ys.length : Int) := by omega
  have ia2 : 1 ≤ ys.length := by omega
  have ia3 : 0 < ys.length := by omega
  clear F h1 h2 h3 hcxw hcyw hczw hcx hcy hnz
  go_enter Try.func14, Try.ntmps14
  go_wp2_with fail
  refine wp_region_any (by kernel_rfl) ?_
  change wpAny _ _ _ _ _ _ _ (World.drew _)
  refine wpAny_ready (rs := [0]) (by kernel_rfl) (by simp) ?_
  refine AllReady.cons rfl (fun K hK => ?_) AllReady.nil
  go_simp
  refine hK _ _ ?_
  clear hK K
  refine wpAny_ready (rs := [1]) (by kernel_rfl) (by simp) ?_
  refine AllReady.cons rfl (fun K hK => ?_) AllReady.nil
  go_simp
  go_wp2_with (go_at_call 10; refine (specGridOk_is _ _ _ _ _ _ _ _ _ xs ys zss _ hc ((unhide H1).drewN 1) ((unhide H2).drewN 1) ((unhide H3).drewN 1)).mono ?_; rintro e w1 ⟨rfl, b1⟩)
  refine wpAny_ready (rs := [2]) (by kernel_rfl) (by simp) ?_
  refine AllReady.cons rfl (fun K hK => ?_) AllReady.nil
  go_simp
  refine hK _ _ ?_
  clear hK K
  refine wpAny_ready (rs := [3]) (by kernel_rfl) (by simp) ?_
  refine AllReady.cons rfl (fun K hK => ?_) AllReady.nil
  go_simp
  refine hK _ _ ?_
  clear hK K
  have e0 : w1.cell? ⟨w.heap.size + 1, 0, none⟩ = some (.int .i64 0) := (b1.cell (p := ⟨w.heap.size + 1, 0, none⟩) (by simp)).trans (by simp [go_sem])
  have e1 : w1.cell? ⟨w.heap.size + 1, 1, none⟩ = some (.int .i64 0) := (b1.cell (p := ⟨w.heap.size + 1, 1, none⟩) (by simp)).trans (by simp [go_sem])
  have f0 : w1.frozen? ⟨w.heap.size + 1, 0, none⟩ = false := (b1.frozen (p := ⟨w.heap.size + 1, 0, none⟩) (by simp)).trans (by simp [go_sem])
  have f1 : w1.frozen? ⟨w.heap.size + 1, 1, none⟩ = false := (b1.frozen (p := ⟨w.heap.size + 1, 1, none⟩) (by simp)).trans (by simp [go_sem])
  have B1 := hide (((unhide B0).trans (bel0d' 1)).trans (b1.mono (by simp; omega)))
  have x0 : w1.cell? ⟨w.heap.size, 0, none⟩ = some (.slice (some ⟨bb1, off1, none⟩) xs.length c1) := (b1.cell (p := ⟨w.heap.size, 0, none⟩) (by simp; omega)).trans (by simp [go_sem])
  have g0 := (b1.cell (p := ⟨bb1, off1, none⟩) lt0).trans g0
  have g1 := (b1.cell (p := ⟨bb1, off1 + (xs.length - 1), none⟩) lt0).trans g1
  clear b1 g2 g3
  refine wpAny_of_held (S := fun w' => w' = w1) _ _ _ _ ?_
  refine wpAnyH_take (i := 4) (v := (.int .i64 x)) rfl (by kernel_rfl) (by kernel_rfl) (by kernel_rfl) (fun _ _ _ h => h) (Or.inl ⟨by kernel_rfl, fun w' hS => by subst hS; go_simp⟩) rfl ?_
  refine wpAnyH_take (i := 5) (v := (.pointer (some ⟨w.heap.size, 0, none⟩))) rfl (by kernel_rfl) (by kernel_rfl) (by kernel_rfl) (fun _ _ _ h => h) (Or.inl ⟨by kernel_rfl, fun w' hS => by subst hS; go_simp⟩) rfl ?_
  refine wpAnyH_take (i := 6) (v := (.slice (some ⟨bb1, off1, none⟩) xs.length c1)) rfl (by kernel_rfl) (by kernel_rfl) (by kernel_rfl) (fun _ _ _ h => h) (Or.inl ⟨by kernel_rfl, fun w' hS => by subst hS; go_simp⟩) rfl ?_
  refine wpAnyH_take (i := 7) (v := (.pointer (some ⟨bb1, off1, none⟩))) rfl (by kernel_rfl) (by kernel_rfl) (by kernel_rfl) (fun _ _ _ h => h) (Or.inl ⟨by kernel_rfl, fun w' hS => by subst hS; go_simp⟩) rfl ?_
  refine wpAnyH_take (i := 8) (v := (.int .i64 (nth xs 0))) rfl (by kernel_rfl) (by kernel_rfl) (by kernel_rfl) (fun _ _ _ h => h) (Or.inl ⟨by kernel_rfl, fun w' hS => by subst hS; go_simp⟩) rfl ?_
  refine wpAnyH_take (i := 9) (v := (.pointer (some ⟨w.heap.size, 0, none⟩))) rfl (by kernel_rfl) (by kernel_rfl) (by kernel_rfl) (fun _ _ _ h => h) (Or.inl ⟨by kernel_rfl, fun w' hS => by subst hS; go_simp⟩) rfl ?_
  refine wpAnyH_take (i := 10) (v := (.slice (some ⟨bb1, off1, none⟩) xs.length c1)) rfl (by kernel_rfl) (by kernel_rfl) (by kernel_rfl) (fun _ _ _ h => h) (Or.inl ⟨by kernel_rfl, fun w' hS => by subst hS; go_simp⟩) rfl ?_
  refine wpAnyH_take (i := 11) (v := (.pointer (some ⟨w.heap.size, 0, none⟩))) rfl (by kernel_rfl) (by kernel_rfl) (by kernel_rfl) (fun _ _ _ h => h) (Or.inl ⟨by kernel_rfl, fun w' hS => by subst hS; go_simp⟩) rfl ?_
  refine wpAnyH_take (i := 12) (v := (.slice (some ⟨bb1, off1, none⟩) xs.length c1)) rfl (by kernel_rfl) (by kernel_rfl) (by kernel_rfl) (fun _ _ _ h => h) (Or.inl ⟨by kernel_rfl, fun w' hS => by subst hS; go_simp⟩) rfl ?_
  refine wpAnyH_take (i := 13) (v := (.int .i64 xs.length)) rfl (by kernel_rfl) (by kernel_rfl) (by kernel_rfl) (fun _ _ _ h => h) (Or.inl ⟨by kernel_rfl, fun w' hS => by subst hS; go_simp⟩) rfl ?_
  refine wpAnyH_take (i := 14) (v := (.int .i64 ((xs.length : Int) - 1))) rfl (by kernel_rfl) (by kernel_rfl) (by kernel_rfl) (fun _ _ _ h => h) (Or.inl ⟨by kernel_rfl, fun w' hS => by subst hS; go_simp⟩) rfl ?_
  refine wpAnyH_take (i := 15) (v := (.pointer (some ⟨bb1, off1 + (xs.length - 1), none⟩))) rfl (by kernel_rfl) (by kernel_rfl) (by kernel_rfl) (fun _ _ _ h => h) (Or.inl ⟨by kernel_rfl, fun w' hS => by subst hS; go_simp⟩) rfl ?_
  refine wpAnyH_take (i := 16) (v := (.int .i64 (nth xs (xs.length - 1)))) rfl (by kernel_rfl) (by kernel_rfl) (by kernel_rfl) (fun _ _ _ h => h) (Or.inl ⟨by kernel_rfl, fun w' hS => by subst hS; go_simp⟩) rfl ?_
  refine wpAnyH_ready (rs := [17]) (by kernel_rfl) (by simp) ?_
  refine AllReadyH.cons rfl (fun K hK => ?_) AllReadyH.nil
  go_simp
  go_wp2_with (go_at_call 34; refine (l1In_is _ _ _ _ hin).mono ?_; rintro e w' ⟨rfl, hw⟩; subst w')
  refine hK.out _ _ rfl (fun _ => ?_)
  clear hK K
  refine wpAnyH_take (i := 18) (v := (.bool true)) rfl (by kernel_rfl) (by kernel_rfl) (by kernel_rfl) (fun _ _ _ h => h) (Or.inl ⟨by kernel_rfl, fun w' hS => by subst hS; go_simp⟩) rfl ?_
  refine wpAnyH_take (i := 19) (v := (.bool true)) rfl (by kernel_rfl) (by kernel_rfl) (by kernel_rfl) (fun _ _ _ h => h) (Or.inl ⟨by kernel_rfl, fun w' hS => by subst hS; go_simp⟩) rfl ?_
  refine wpAnyH_take (i := 20) (v := (.bool true)) rfl (by kernel_rfl) (by kernel_rfl) (by kernel_rfl) (fun _ _ _ h => h) (Or.inl ⟨by kernel_rfl, fun w' hS => by subst hS; go_simp⟩) rfl ?_
  refine wpAnyH_take (i := 21) (v := undef) rfl (by kernel_rfl) (by kernel_rfl) (by kernel_rfl) (fun _ _ _ h => h) (Or.inr ⟨by kernel_rfl, rfl⟩) rfl ?_
  refine wpAnyH_take (i := 22) (v := undef) rfl (by kernel_rfl) (by kernel_rfl) (by kernel_rfl) (fun _ _ _ h => h) (Or.inr ⟨by kernel_rfl, rfl⟩) rfl ?_
  refine wpAnyH_take (i := 23) (v := undef) rfl (by kernel_rfl) (by kernel_rfl) (by kernel_rfl) (fun _ _ _ h => h) (Or.inr ⟨by kernel_rfl, rfl⟩) rfl ?_
  refine wpAnyH_take (i := 24) (v := undef) rfl (by kernel_rfl) (by kernel_rfl) (by kernel_rfl) (fun _ _ _ h => h) (Or.inr ⟨by kernel_rfl, rfl⟩) rfl ?_
  refine wpAnyH_take (i := 25) (v := undef) rfl (by kernel_rfl) (by kernel_rfl) (by kernel_rfl) (fun _ _ _ h => h) (Or.inr ⟨by kernel_rfl, rfl⟩) rfl ?_
  refine wpAnyH_take (i := 26) (v := undef) rfl (by kernel_rfl) (by kernel_rfl) (by kernel_rfl) (fun _ _ _ h => h) (Or.inr ⟨by kernel_rfl, rfl⟩) rfl ?_
  refine wpAnyH_take (i := 27) (v := undef) rfl (by kernel_rfl) (by kernel_rfl) (by kernel_rfl) (fun _ _ _ h => h) (Or.inr ⟨by kernel_rfl, rfl⟩) rfl ?_
  refine wpAnyH_take (i := 28) (v := undef) rfl (by kernel_rfl) (by kernel_rfl) (by kernel_rfl) (fun _ _ _ h => h) (Or.inr ⟨by kernel_rfl, rfl⟩) rfl ?_
  refine wpAnyH_take (i := 29) (v := undef) rfl (by kernel_rfl) (by kernel_rfl) (by kernel_rfl) (fun _ _ _ h => h) (Or.inr ⟨by kernel_rfl, rfl⟩) rfl ?_
  refine wpAnyH_take (i := 30) (v := undef) rfl (by kernel_rfl) (by kernel_rfl) (by kernel_rfl) (fun _ _ _ h => h) (Or.inr ⟨by kernel_rfl, rfl⟩) rfl ?_
  refine wpAnyH_take (i := 31) (v := undef) rfl (by kernel_rfl) (by kernel_rfl) (by kernel_rfl) (fun _ _ _ h => h) (Or.inr ⟨by kernel_rfl, rfl⟩) rfl ?_
  refine wpAnyH_take (i := 32) (v := undef) rfl (by kernel_rfl) (by kernel_rfl) (by kernel_rfl) (fun _ _ _ h => h) (Or.inr ⟨by kernel_rfl, rfl⟩) rfl ?_
  refine wpAnyH_take (i := 33) (v := undef) rfl (by kernel_rfl) (by kernel_rfl) (by kernel_rfl) (fun _ _ _ h => h) (Or.inr ⟨by kernel_rfl, rfl⟩) rfl ?_
  refine wpAnyH_take (i := 34) (v := undef) rfl (by kernel_rfl) (by kernel_rfl) (by kernel_rfl) (fun _ _ _ h => h) (Or.inr ⟨by kernel_rfl, rfl⟩) rfl ?_
  refine wpAnyH_take (i := 35) (v := undef) rfl (by kernel_rfl) (by kernel_rfl) (by kernel_rfl) (fun _ _ _ h => h) (Or.inr ⟨by kernel_rfl, rfl⟩) rfl ?_
  refine wpAnyH_ready (rs := [36]) (by kernel_rfl) (by simp) ?_
  refine AllReadyH.cons rfl (fun K hK => ?_) AllReadyH.nil
  go_simp
  refine hK.out _ _ rfl (fun _ => ?_)
  clear hK K
  refine wpAnyH_done (by kernel_rfl) ?_ _
  go_wp2
  refine bodyPost_ret (v := .tuple #[.agg #[.int .i64 0, .int .i64 0], .bool false]) (by simp [results, Try.results14, go_sem, *]) rfl ⟨rfl, ?_⟩
  repeat (first | exact unhide B1 | refine Below.setCell ?_ (by simp; try omega) _)

end Go.Proofs.Ytbaocifpifbldai
