/-
  What At answers in the program: the model's fraction and flag at every curve whose lists have no less room than length; nothing that was there is written.
-/
import Derived.Test.YtikhfacgoglcfaaAtYes
namespace Go.Proofs.Ytikhfacgoglcfaa
open Go.RowKit
attribute [local go_sem ↓] Go.wp_at_zero Go.wp_at_succ

set_option maxHeartbeats 1000000 in
theorem implAt_no (a1 a2 : Option Addr) (l1 c1 l2 c2 : Nat) (xs ys : List Int) (x : Int) (w : World) (h1 : Row w a1 l1 xs) (h2 : Row w a2 l2 ys) (hc : curveB xs ys = false) :
    Calls Try.prog 6 #[.agg #[.slice a1 l1 c1, .slice a2 l2 c2], .int .i64 x] w fun e w' => e = .returned (.tuple #[.agg #[.int .i64 0, .int .i64 0], .bool false]) ∧ Below w.heap.size w w' := by
  have H1 := hide ((h1.alloc (.cells #[.slice a1 l1 c1, .slice a2 l2 c2] 26)).alloc (.cells #[.int .i64 0, .int .i64 0] 30))
  have H2 := hide ((h2.alloc (.cells #[.slice a1 l1 c1, .slice a2 l2 c2] 26)).alloc (.cells #[.int .i64 0, .int .i64 0] 30))
  have B0 := hide (bel2 (w := w) (.cells #[.slice a1 l1 c1, .slice a2 l2 c2] 26) (.cells #[.int .i64 0, .int .i64 0] 30))
  clear h1 h2
  go_enter Try.func6, Try.ntmps6
  go_wp2_with fail
  refine (implCurveOk_is _ _ _ _ _ _ xs ys _ hc (unhide H1) (unhide H2)).mono ?_
  rintro e w1 ⟨rfl, b1⟩
  have e0 : w1.cell? ⟨w.heap.size + 1, 0, none⟩ = some (.int .i64 0) := (b1.cell (p := ⟨w.heap.size + 1, 0, none⟩) (by simp)).trans (by simp [go_sem])
  have e1 : w1.cell? ⟨w.heap.size + 1, 1, none⟩ = some (.int .i64 0) := (b1.cell (p := ⟨w.heap.size + 1, 1, none⟩) (by simp)).trans (by simp [go_sem])
  have f0 : w1.frozen? ⟨w.heap.size + 1, 0, none⟩ = false := (b1.frozen (p := ⟨w.heap.size + 1, 0, none⟩) (by simp)).trans (by simp [go_sem])
  have f1 : w1.frozen? ⟨w.heap.size + 1, 1, none⟩ = false := (b1.frozen (p := ⟨w.heap.size + 1, 1, none⟩) (by simp)).trans (by simp [go_sem])
  have B1 := hide ((unhide B0).trans (b1.mono (by simp; omega)))
  clear b1
  go_wp2
  refine bodyPost_ret (v := .tuple #[.agg #[.int .i64 0, .int .i64 0], .bool false]) (by simp [results, Try.results6, go_sem, *]) rfl ⟨rfl, ?_⟩
  repeat (first | exact unhide B1 | refine Below.setCell ?_ (by simp; try omega) _)

set_option maxHeartbeats 1000000 in
theorem implAt_out (a1 a2 : Option Addr) (l1 c1 l2 c2 : Nat) (xs ys : List Int) (x : Int) (w : World) (h1 : Row w a1 l1 xs) (h2 : Row w a2 l2 ys) (hc : curveB xs ys = true) (hin : inB x (nth xs 0) (nth xs (xs.length - 1)) = false) :
    Calls Try.prog 6 #[.agg #[.slice a1 l1 c1, .slice a2 l2 c2], .int .i64 x] w fun e w' => e = .returned (.tuple #[.agg #[.int .i64 0, .int .i64 0], .bool false]) ∧ Below w.heap.size w w' := by
  have F := curveB_facts hc
  have hn := F.many
  have hlen := F.len
  have HF := hide F
  have HL := hide hlen
  have hn2 : 2 ≤ ys.length := by omega
  have hn3 : ys.length ≤ 20 := by omega
  have hle1 : xs.length ≤ ys.length := by omega
  have hle2 : ys.length ≤ xs.length := by omega
  have H1 := hide ((h1.alloc (.cells #[.slice a1 l1 c1, .slice a2 l2 c2] 26)).alloc (.cells #[.int .i64 0, .int .i64 0] 30))
  have H2 := hide ((h2.alloc (.cells #[.slice a1 l1 c1, .slice a2 l2 c2] 26)).alloc (.cells #[.int .i64 0, .int .i64 0] 30))
  have B0 := hide (bel2 (w := w) (.cells #[.slice a1 l1 c1, .slice a2 l2 c2] 26) (.cells #[.int .i64 0, .int .i64 0] 30))
  have hl1 := h1.len_eq
  have hl2 := h2.len_eq
  subst hl1
  subst hl2
  rcases h1.open_ with ⟨h0, _⟩ | ⟨bb1, off1, rfl, _, hcxw⟩
  · omega
  rcases h2.open_ with ⟨h0, _⟩ | ⟨bb, off, rfl, _, hcyw⟩
  · omega
  have hcx := fun i hi => ((unhide B0).cell (block_lt_of_cell (hcxw i hi))).trans (hcxw i hi)
  have hcy := fun i hi => ((unhide B0).cell (block_lt_of_cell (hcyw i hi))).trans (hcyw i hi)
  have hbx : bb1 < w.heap.size := block_lt_of_cell (hcxw 0 (by omega))
  have hby : bb < w.heap.size := block_lt_of_cell (hcyw 0 (by omega))
  have hnx : ¬ (w.heap.size + 1 = bb1) := by omega
  have hny : ¬ (w.heap.size + 1 = bb) := by omega
  have hnx2 : ¬ (bb1 = w.heap.size + 1) := by omega
  have hny2 : ¬ (bb = w.heap.size + 1) := by omega
  clear F hlen h1 h2 hcxw hcyw
  have HCX := hide hcx
  have HCY := hide hcy
  have g0 := hcx 0 (by omega)
  have g1 := hcx (xs.length - 1) (by omega)
  simp only [Nat.add_zero] at g0
  have lt0 := block_lt_of_cell g0
  have hi0 : (0 : Int) < (xs.length : Int) := by omega
  have hwr : IntKind.i64.wrap ((xs.length : Int) - 1) = (xs.length : Int) - 1 := by rw [IntKind.wrap_i64]; omega
  have hj0 : (0 : Int) ≤ (xs.length : Int) - 1 := by omega
  have hj1 : (xs.length : Int) - 1 < (xs.length : Int) := by omega
  have hjt : ((xs.length : Int) - 1).toNat = xs.length - 1 := by omega
  have ha1 : (1 : Int) ≤ (xs.length : Int) := by omega
  have ha2 : 1 ≤ xs.length := by omega
  have ha3 : 0 < xs.length := by omega
  clear hcx hcy
  go_enter Try.func6, Try.ntmps6
  go_wp2_with fail
  refine (implCurveOk_is _ _ _ _ _ _ xs ys _ hc (unhide H1) (unhide H2)).mono ?_
  rintro e w1 ⟨rfl, b1⟩
  have hs1 : w.heap.size + 1 < w1.heap.size := by have := b1.size; simp at this; omega
  have x0 : w1.cell? ⟨w.heap.size, 0, none⟩ = some (.slice (some ⟨bb1, off1, none⟩) xs.length c1) := (b1.cell (p := ⟨w.heap.size, 0, none⟩) (by simp; omega)).trans (by simp [go_sem])
  have x1 : w1.cell? ⟨w.heap.size, 1, none⟩ = some (.slice (some ⟨bb, off, none⟩) ys.length c2) := (b1.cell (p := ⟨w.heap.size, 1, none⟩) (by simp; omega)).trans (by simp [go_sem])
  have e0 : w1.cell? ⟨w.heap.size + 1, 0, none⟩ = some (.int .i64 0) := (b1.cell (p := ⟨w.heap.size + 1, 0, none⟩) (by simp)).trans (by simp [go_sem])
  have e1 : w1.cell? ⟨w.heap.size + 1, 1, none⟩ = some (.int .i64 0) := (b1.cell (p := ⟨w.heap.size + 1, 1, none⟩) (by simp)).trans (by simp [go_sem])
  have f0 : w1.frozen? ⟨w.heap.size + 1, 0, none⟩ = false := (b1.frozen (p := ⟨w.heap.size + 1, 0, none⟩) (by simp)).trans (by simp [go_sem])
  have f1 : w1.frozen? ⟨w.heap.size + 1, 1, none⟩ = false := (b1.frozen (p := ⟨w.heap.size + 1, 1, none⟩) (by simp)).trans (by simp [go_sem])
  have hcx1 : ∀ i, i < xs.length → w1.cell? ⟨bb1, off1 + i, none⟩ = some (.int .i64 (nth xs i)) := fun i hi => (b1.cell (block_lt_of_cell ((unhide HCX) i hi))).trans ((unhide HCX) i hi)
  have hcy1 : ∀ i, i < ys.length → w1.cell? ⟨bb, off + i, none⟩ = some (.int .i64 (nth ys i)) := fun i hi => (b1.cell (block_lt_of_cell ((unhide HCY) i hi))).trans ((unhide HCY) i hi)
  have B1 := hide ((unhide B0).trans (b1.mono (by simp; omega)))
  have HX := hide hcx1
  have HYc := hide hcy1
  clear b1 hcx1 hcy1 hwr hj0 hj1 hjt g0 g1
  go_wp2_with fail
  refine (lowerPlace_no _ _ _ xs _ _ (by omega) (by omega) (unhide HX) hin).mono ?_
  rintro e w2 ⟨rfl, n, hw⟩
  have b2 : Below w1.heap.size w1 w2 := by rw [hw]; exact bel0d' n
  clear hw
  have hs2 : w.heap.size + 1 < w2.heap.size := by have := b2.size; omega
  have hs0 : w.heap.size < w1.heap.size := by omega
  have x0 := (b2.cell (p := ⟨w.heap.size, 0, none⟩) hs0).trans x0
  have x1 := (b2.cell (p := ⟨w.heap.size, 1, none⟩) hs0).trans x1
  have e0 := (b2.cell (p := ⟨w.heap.size + 1, 0, none⟩) hs1).trans e0
  have e1 := (b2.cell (p := ⟨w.heap.size + 1, 1, none⟩) hs1).trans e1
  have f0 := (b2.frozen (p := ⟨w.heap.size + 1, 0, none⟩) hs1).trans f0
  have f1 := (b2.frozen (p := ⟨w.heap.size + 1, 1, none⟩) hs1).trans f1
  have B2 := hide ((unhide B1).trans (b2.mono (by omega)))
  clear b2
  go_wp2
  refine bodyPost_ret (v := .tuple #[.agg #[.int .i64 0, .int .i64 0], .bool false]) (by simp [results, Try.results6, go_sem, *]) rfl ⟨rfl, ?_⟩
  repeat (first | exact unhide B2 | refine Below.setCell ?_ (by simp; try omega) _)

set_option maxHeartbeats 2000000 in
theorem implAt_yes (a1 a2 : Option Addr) (l1 c1 l2 c2 : Nat) (xs ys : List Int) (x : Int) (w : World) (h1 : Row w a1 l1 xs) (h2 : Row w a2 l2 ys) (hcap1 : l1 ≤ c1) (hcap2 : l2 ≤ c2) (hc : curveB xs ys = true) (hin : inB x (nth xs 0) (nth xs (xs.length - 1)) = true) :
    Calls Try.prog 6 #[.agg #[.slice a1 l1 c1, .slice a2 l2 c2], .int .i64 x] w fun e w' => e = .returned (.tuple #[.agg #[.int .i64 (fracN (atNum xs ys x) (atDen xs x)), .int .i64 (fracD (atNum xs ys x) (atDen xs x))], .bool true]) ∧ Below w.heap.size w w' := by
  have F := curveB_facts hc
  have hn := F.many
  have hlen := F.len
  have HF := hide F
  have HL := hide hlen
  have hn2 : 2 ≤ ys.length := by omega
  have hn3 : ys.length ≤ 20 := by omega
  have hle1 : xs.length ≤ ys.length := by omega
  have hle2 : ys.length ≤ xs.length := by omega
  have H1 := hide ((h1.alloc (.cells #[.slice a1 l1 c1, .slice a2 l2 c2] 26)).alloc (.cells #[.int .i64 0, .int .i64 0] 30))
  have H2 := hide ((h2.alloc (.cells #[.slice a1 l1 c1, .slice a2 l2 c2] 26)).alloc (.cells #[.int .i64 0, .int .i64 0] 30))
  have B0 := hide (bel2 (w := w) (.cells #[.slice a1 l1 c1, .slice a2 l2 c2] 26) (.cells #[.int .i64 0, .int .i64 0] 30))
  have hl1 := h1.len_eq
  have hl2 := h2.len_eq
  subst hl1
  subst hl2
  rcases h1.open_ with ⟨h0, _⟩ | ⟨bb1, off1, rfl, _, hcxw⟩
  · omega
  rcases h2.open_ with ⟨h0, _⟩ | ⟨bb, off, rfl, _, hcyw⟩
  · omega
  have hcx := fun i hi => ((unhide B0).cell (block_lt_of_cell (hcxw i hi))).trans (hcxw i hi)
  have hcy := fun i hi => ((unhide B0).cell (block_lt_of_cell (hcyw i hi))).trans (hcyw i hi)
  have hbx : bb1 < w.heap.size := block_lt_of_cell (hcxw 0 (by omega))
  have hby : bb < w.heap.size := block_lt_of_cell (hcyw 0 (by omega))
  have hnx : ¬ (w.heap.size + 1 = bb1) := by omega
  have hny : ¬ (w.heap.size + 1 = bb) := by omega
  have hnx2 : ¬ (bb1 = w.heap.size + 1) := by omega
  have hny2 : ¬ (bb = w.heap.size + 1) := by omega
  clear F hlen h1 h2 hcxw hcyw
  have HCX := hide hcx
  have HCY := hide hcy
  have g0 := hcx 0 (by omega)
  have g1 := hcx (xs.length - 1) (by omega)
  simp only [Nat.add_zero] at g0
  have lt0 := block_lt_of_cell g0
  have hi0 : (0 : Int) < (xs.length : Int) := by omega
  have hwr : IntKind.i64.wrap ((xs.length : Int) - 1) = (xs.length : Int) - 1 := by rw [IntKind.wrap_i64]; omega
  have hj0 : (0 : Int) ≤ (xs.length : Int) - 1 := by omega
  have hj1 : (xs.length : Int) - 1 < (xs.length : Int) := by omega
  have hjt : ((xs.length : Int) - 1).toNat = xs.length - 1 := by omega
  have ha1 : (1 : Int) ≤ (xs.length : Int) := by omega
  have ha2 : 1 ≤ xs.length := by omega
  have ha3 : 0 < xs.length := by omega
  clear hcx hcy
  have hxi := in_facts hin
  have hx0 := (unhide HF).xb 0 (by omega)
  have hx1 := (unhide HF).xb (xs.length - 1) (by omega)
  have hxx : -100000 ≤ x ∧ x ≤ 100000 := by omega
  clear hxi hx0 hx1
  go_enter Try.func6, Try.ntmps6
  go_wp2_with fail
  refine (implCurveOk_is _ _ _ _ _ _ xs ys _ hc (unhide H1) (unhide H2)).mono ?_
  rintro e w1 ⟨rfl, b1⟩
  have hs1 : w.heap.size + 1 < w1.heap.size := by have := b1.size; simp at this; omega
  have x0 : w1.cell? ⟨w.heap.size, 0, none⟩ = some (.slice (some ⟨bb1, off1, none⟩) xs.length c1) := (b1.cell (p := ⟨w.heap.size, 0, none⟩) (by simp; omega)).trans (by simp [go_sem])
  have x1 : w1.cell? ⟨w.heap.size, 1, none⟩ = some (.slice (some ⟨bb, off, none⟩) ys.length c2) := (b1.cell (p := ⟨w.heap.size, 1, none⟩) (by simp; omega)).trans (by simp [go_sem])
  have e0 : w1.cell? ⟨w.heap.size + 1, 0, none⟩ = some (.int .i64 0) := (b1.cell (p := ⟨w.heap.size + 1, 0, none⟩) (by simp)).trans (by simp [go_sem])
  have e1 : w1.cell? ⟨w.heap.size + 1, 1, none⟩ = some (.int .i64 0) := (b1.cell (p := ⟨w.heap.size + 1, 1, none⟩) (by simp)).trans (by simp [go_sem])
  have f0 : w1.frozen? ⟨w.heap.size + 1, 0, none⟩ = false := (b1.frozen (p := ⟨w.heap.size + 1, 0, none⟩) (by simp)).trans (by simp [go_sem])
  have f1 : w1.frozen? ⟨w.heap.size + 1, 1, none⟩ = false := (b1.frozen (p := ⟨w.heap.size + 1, 1, none⟩) (by simp)).trans (by simp [go_sem])
  have hcx1 : ∀ i, i < xs.length → w1.cell? ⟨bb1, off1 + i, none⟩ = some (.int .i64 (nth xs i)) := fun i hi => (b1.cell (block_lt_of_cell ((unhide HCX) i hi))).trans ((unhide HCX) i hi)
  have hcy1 : ∀ i, i < ys.length → w1.cell? ⟨bb, off + i, none⟩ = some (.int .i64 (nth ys i)) := fun i hi => (b1.cell (block_lt_of_cell ((unhide HCY) i hi))).trans ((unhide HCY) i hi)
  have B1 := hide ((unhide B0).trans (b1.mono (by simp; omega)))
  have HX := hide hcx1
  have HYc := hide hcy1
  clear b1 hcx1 hcy1 hwr hj0 hj1 hjt g0 g1
  go_wp2_with fail
  refine (lowerPlace_yes _ _ _ xs _ _ (by omega) (by omega) (unhide HX) hin).mono ?_
  rintro e w2 ⟨rfl, n, hw⟩
  have b2 : Below w1.heap.size w1 w2 := by rw [hw]; exact bel0d' n
  clear hw
  have hs2 : w.heap.size + 1 < w2.heap.size := by have := b2.size; omega
  have hs0 : w.heap.size < w1.heap.size := by omega
  have x0 := (b2.cell (p := ⟨w.heap.size, 0, none⟩) hs0).trans x0
  have x1 := (b2.cell (p := ⟨w.heap.size, 1, none⟩) hs0).trans x1
  have e0 := (b2.cell (p := ⟨w.heap.size + 1, 0, none⟩) hs1).trans e0
  have e1 := (b2.cell (p := ⟨w.heap.size + 1, 1, none⟩) hs1).trans e1
  have f0 := (b2.frozen (p := ⟨w.heap.size + 1, 0, none⟩) hs1).trans f0
  have f1 := (b2.frozen (p := ⟨w.heap.size + 1, 1, none⟩) hs1).trans f1
  have B2 := hide ((unhide B1).trans (b2.mono (by omega)))
  have hk2 := lowAt_lt (zs := xs) (x := x) (by omega)
  have HN : Hid (atNum xs ys x = nth ys (lowAt xs x) * (nth xs (lowAt xs x + 1) - nth xs (lowAt xs x)) + (nth ys (lowAt xs x + 1) - nth ys (lowAt xs x)) * (x - nth xs (lowAt xs x))) := by exact hide rfl
  have HD : Hid (atDen xs x = nth xs (lowAt xs x + 1) - nth xs (lowAt xs x)) := by exact hide rfl
  generalize lowAt xs x = k at *
  have cx0 := (b2.cell (block_lt_of_cell ((unhide HX) k (by omega)))).trans ((unhide HX) k (by omega))
  have cx1 := (b2.cell (block_lt_of_cell ((unhide HX) (k + 1) (by omega)))).trans ((unhide HX) (k + 1) (by omega))
  have cy0 := (b2.cell (block_lt_of_cell ((unhide HYc) k (by omega)))).trans ((unhide HYc) k (by omega))
  have cy1 := (b2.cell (block_lt_of_cell ((unhide HYc) (k + 1) (by omega)))).trans ((unhide HYc) (k + 1) (by omega))
  rw [← Nat.add_assoc] at cx1 cy1
  have bx0 := (unhide HF).xb k (by omega)
  have bx1 := (unhide HF).xb (k + 1) (by omega)
  have by0 := (unhide HF).yb k (by omega)
  have by1 := (unhide HF).yb (k + 1) (by omega)
  have hr := (unhide HF).rise k (by omega)
  have hpr := between_bd (B := 100000) (C := 100000) bx0 bx1 by0 by1 hxx
  have hpr1 : -20000000000 ≤ nth ys k * (nth xs (k + 1) - nth xs k) ∧ nth ys k * (nth xs (k + 1) - nth xs k) ≤ 20000000000 := by omega
  have hpr2 : -40000000000 ≤ (nth ys (k + 1) - nth ys k) * (x - nth xs k) ∧ (nth ys (k + 1) - nth ys k) * (x - nth xs k) ≤ 40000000000 := by omega
  clear hpr HX HYc HCX HCY H1 H2 b2 hin
  go_wp2_with fail
  refine (neighbours_any _ _ _ _ _ _ (by omega) (by omega) (by omega)).mono ?_
  rintro e w' ⟨rfl, hw⟩
  subst w'
  go_wp2_with fail
  refine (neighbours_any _ _ _ _ _ _ (by omega) (by omega) (by omega)).mono ?_
  rintro e w' ⟨rfl, hw⟩
  subst w'
  go_wp2_with fail
  have q3 : IntKind.i64.wrap (nth xs (k + 1) - nth xs k) = nth xs (k + 1) - nth xs k := by rw [IntKind.wrap_i64]; omega
  have ltx := block_lt_of_cell cx0
  go_region_held3 (fun w' => w'.cell? ⟨bb1, off1 + k, none⟩ = some (.int .i64 (nth xs k)) ∧ w'.cell? ⟨bb1, off1 + k + 1, none⟩ = some (.int .i64 (nth xs (k + 1)))) (go_keep)
    (first
      | (go_at_call 18; refine (scaled_any _ _ _ _ (nth xs k) (nth xs (k + 1)) (nth ys k) (nth ys (k + 1)) x 100000 100000 _ bx0 bx1 by0 by1 hxx (by omega) (by omega) (by omega) (by omega) (by omega) (by omega) (by simpa using cx0) (by simpa using cx1) (by simpa using cy0) (by simpa using cy1)).mono ?_; rintro e w3 ⟨rfl, n3, hw3⟩; subst w3)
      | (go_at_call 17; refine (fracOf_any _ _ _ (by omega) (by omega) (by omega) (by omega)).mono ?_; rintro e w4 ⟨rfl, b4⟩; have cx0 := (b4.cell (p := ⟨bb1, off1 + k, none⟩) ltx).trans cx0; have cx1 := (b4.cell (p := ⟨bb1, off1 + k + 1, none⟩) ltx).trans cx1; have e0 := (b4.cell (p := ⟨w.heap.size + 1, 0, none⟩) hs2).trans e0; have e1 := (b4.cell (p := ⟨w.heap.size + 1, 1, none⟩) hs2).trans e1; have f0 := (b4.frozen (p := ⟨w.heap.size + 1, 0, none⟩) hs2).trans f0; have f1 := (b4.frozen (p := ⟨w.heap.size + 1, 1, none⟩) hs2).trans f1; have B4 := hide ((unhide B2).trans (((bel0d' _).trans (b4.mono (Nat.le_refl _))).mono (by simp; omega)))))
  go_wp2
  refine bodyPost_ret (v := .tuple #[.agg #[.int .i64 (fracN (nth ys k * (nth xs (k + 1) - nth xs k) + (nth ys (k + 1) - nth ys k) * (x - nth xs k)) (nth xs (k + 1) - nth xs k)), .int .i64 (fracD (nth ys k * (nth xs (k + 1) - nth xs k) + (nth ys (k + 1) - nth ys k) * (x - nth xs k)) (nth xs (k + 1) - nth xs k))], .bool true]) (by simp [results, Try.results6, go_sem, *]) rfl ⟨?_, ?_⟩
  · rw [unhide HN, unhide HD]
  · repeat (first | exact unhide B4 | refine Below.setCell ?_ (by simp; try omega) _)

theorem implAt_any (a1 a2 : Option Addr) (l1 c1 l2 c2 : Nat) (xs ys : List Int) (x : Int) (w : World) (h1 : Row w a1 l1 xs) (h2 : Row w a2 l2 ys) (hcap1 : l1 ≤ c1) (hcap2 : l2 ≤ c2) :
    Calls Try.prog 6 #[.agg #[.slice a1 l1 c1, .slice a2 l2 c2], .int .i64 x] w fun e w' => e = .returned (.tuple #[.agg #[.int .i64 (atN xs ys x), .int .i64 (atD xs ys x)], .bool (atFlag xs ys x)]) ∧ Below w.heap.size w w' := by
  cases hc : curveB xs ys
  · have e3 : atFlag xs ys x = false := by simp [atFlag, hc]
    have e1 : atN xs ys x = 0 := by simp [atN, e3]
    have e2 : atD xs ys x = 0 := by simp [atD, e3]
    rw [e1, e2, e3]
    exact implAt_no a1 a2 l1 c1 l2 c2 xs ys x w h1 h2 hc
  · cases hi : inB x (nth xs 0) (nth xs (xs.length - 1))
    · have e3 : atFlag xs ys x = false := by simp [atFlag, hi]
      have e1 : atN xs ys x = 0 := by simp [atN, e3]
      have e2 : atD xs ys x = 0 := by simp [atD, e3]
      rw [e1, e2, e3]
      exact implAt_out a1 a2 l1 c1 l2 c2 xs ys x w h1 h2 hc hi
    · have e3 : atFlag xs ys x = true := by simp [atFlag, hc, hi]
      have e1 : atN xs ys x = fracN (atNum xs ys x) (atDen xs x) := by simp [atN, e3]
      have e2 : atD xs ys x = fracD (atNum xs ys x) (atDen xs x) := by simp [atD, e3]
      rw [e1, e2, e3]
      exact implAt_yes a1 a2 l1 c1 l2 c2 xs ys x w h1 h2 hcap1 hcap2 hc hi

end Go.Proofs.Ytikhfacgoglcfaa
