/-
  What Held answers in the model and in the program: At of the place held within the table, the same in both, at every curve and place; nothing that was there is written.
-/
import Derived.Test.YtikhfacgoglcfaaAtImpl
import Derived.Deep.DrawnRows
namespace Go.Proofs.Ytikhfacgoglcfaa
open Go.RowKit
attribute [local go_sem ↓] Go.wp_at_zero Go.wp_at_succ

/-- A place held between the first and the last of a table. -/
def heldX (xs : List Int) (x : Int) : Int := max (nth xs 0) (min (nth xs (xs.length - 1)) x)

theorem rise_ends {xs ys : List Int} (f : CurveFacts xs ys) : ∀ j, j < xs.length → nth xs 0 ≤ nth xs j := by
  intro j
  induction j with
  | zero => intro _; omega
  | succ j ih => intro hj; have := ih (by omega); have := f.rise j (by omega); omega

theorem heldX_impl {xs ys : List Int} {x : Int} (f : CurveFacts xs ys) : (min (max x (nth xs 0)) (nth xs (xs.length - 1))) = heldX xs x := by
  have := rise_ends f (xs.length - 1) (by have := f.many; omega)
  unfold heldX; omega

set_option maxHeartbeats 400000 in
theorem l1Min_any (a b : Int) (w : World) :
    Calls Try.prog 14 #[.int .i64 a, .int .i64 b] w fun e w' => e = .returned (.int .i64 (min a b)) ∧ w' = w := by
  by_cases h : a < b
  all_goals
    go_enter Try.func14, Try.ntmps14
    go_wp2
    go_ret
    exact ⟨ret_int (by omega), rfl⟩

set_option maxHeartbeats 1000000 in
theorem implHeld_no (a1 a2 : Option Addr) (l1 c1 l2 c2 : Nat) (xs ys : List Int) (x : Int) (w : World) (h1 : Row w a1 l1 xs) (h2 : Row w a2 l2 ys) (hc : curveB xs ys = false) :
    Calls Try.prog 8 #[.agg #[.slice a1 l1 c1, .slice a2 l2 c2], .int .i64 x] w fun e w' => e = .returned (.tuple #[.agg #[.int .i64 0, .int .i64 0], .bool false]) ∧ Below w.heap.size w w' := by
  have H1 := hide ((h1.alloc (.cells #[.slice a1 l1 c1, .slice a2 l2 c2] 26)).alloc (.cells #[.int .i64 0, .int .i64 0] 30))
  have H2 := hide ((h2.alloc (.cells #[.slice a1 l1 c1, .slice a2 l2 c2] 26)).alloc (.cells #[.int .i64 0, .int .i64 0] 30))
  have B0 := hide (bel2 (w := w) (.cells #[.slice a1 l1 c1, .slice a2 l2 c2] 26) (.cells #[.int .i64 0, .int .i64 0] 30))
  clear h1 h2
  go_enter Try.func8, Try.ntmps8
  go_wp2_with fail
  refine (implCurveOk_is _ _ _ _ _ _ xs ys _ hc (unhide H1) (unhide H2)).mono ?_
  rintro e w1 ⟨rfl, b1⟩
  have e0 : w1.cell? ⟨w.heap.size + 1, 0, none⟩ = some (.int .i64 0) := (b1.cell (p := ⟨w.heap.size + 1, 0, none⟩) (by simp)).trans (by simp [go_sem])
  have e1 : w1.cell? ⟨w.heap.size + 1, 1, none⟩ = some (.int .i64 0) := (b1.cell (p := ⟨w.heap.size + 1, 1, none⟩) (by simp)).trans (by simp [go_sem])
  have f0 : w1.frozen? ⟨w.heap.size + 1, 0, none⟩ = false := (b1.frozen (p := ⟨w.heap.size + 1, 0, none⟩) (by simp)).trans (by simp [go_sem])
  have f1 : w1.frozen? ⟨w.heap.size + 1, 1, none⟩ = false := (b1.frozen (p := ⟨w.heap.size + 1, 1, none⟩) (by simp)).trans (by simp [go_sem])
  have B1 := hide ((unhide B0).trans (b1.mono (by simp; omega)))
  clear b1
  go_wp2
  refine bodyPost_ret (v := .tuple #[.agg #[.int .i64 0, .int .i64 0], .bool false]) (by simp [results, Try.results8, go_sem, *]) rfl ⟨rfl, ?_⟩
  repeat (first | exact unhide B1 | refine Below.setCell ?_ (by simp; try omega) _)

theorem implAt_is {z : Int} (a1 a2 : Option Addr) (l1 c1 l2 c2 : Nat) (xs ys : List Int) (x : Int) (w : World) (hz : x = z) (h1 : Row w a1 l1 xs) (h2 : Row w a2 l2 ys) (hcap1 : l1 ≤ c1) (hcap2 : l2 ≤ c2) :
    Calls Try.prog 6 #[.agg #[.slice a1 l1 c1, .slice a2 l2 c2], .int .i64 x] w fun e w' => e = .returned (.tuple #[.agg #[.int .i64 (atN xs ys z), .int .i64 (atD xs ys z)], .bool (atFlag xs ys z)]) ∧ Below w.heap.size w w' := by
  subst hz; exact implAt_any a1 a2 l1 c1 l2 c2 xs ys x w h1 h2 hcap1 hcap2

set_option maxHeartbeats 2000000 in
theorem implHeld_yes (a1 a2 : Option Addr) (l1 c1 l2 c2 : Nat) (xs ys : List Int) (x : Int) (w : World) (h1 : Row w a1 l1 xs) (h2 : Row w a2 l2 ys) (hcap1 : l1 ≤ c1) (hcap2 : l2 ≤ c2) (hc : curveB xs ys = true) :
    Calls Try.prog 8 #[.agg #[.slice a1 l1 c1, .slice a2 l2 c2], .int .i64 x] w fun e w' => e = .returned (.tuple #[.agg #[.int .i64 (atN xs ys (heldX xs x)), .int .i64 (atD xs ys (heldX xs x))], .bool (atFlag xs ys (heldX xs x))]) ∧ Below w.heap.size w w' := by
  have HH := hide (heldX_impl (x := x) (curveB_facts hc))
  have F := curveB_facts hc
  have hn := F.many
  have hlen := F.len
  have HF := hide F
  have HL := hide hlen
  have hn2 : 2 ≤ ys.length := by omega
  have hn3 : ys.length ≤ 20 := by omega
  have hle1 : xs.length ≤ ys.length := by omega
  have hle2 : ys.length ≤ xs.length := by omega
  have H1 := hide ((h1.alloc (.cells #[.slice a1 l1 c1, .slice a2 l2 c2] 26)).alloc (.cells #[.int .i64 0, .int .i64 0] 30))
  have H2 := hide ((h2.alloc (.cells #[.slice a1 l1 c1, .slice a2 l2 c2] 26)).alloc (.cells #[.int .i64 0, .int .i64 0] 30))
  have B0 := hide (bel2 (w := w) (.cells #[.slice a1 l1 c1, .slice a2 l2 c2] 26) (.cells #[.int .i64 0, .int .i64 0] 30))
  have hl1 := h1.len_eq
  have hl2 := h2.len_eq
  subst hl1
  subst hl2
  rcases h1.open_ with ⟨h0, _⟩ | ⟨bb1, off1, rfl, _, hcxw⟩
  · omega
  rcases h2.open_ with ⟨h0, _⟩ | ⟨bb, off, rfl, _, hcyw⟩
  · omega
  have hcx := fun i hi => ((unhide B0).cell (block_lt_of_cell (hcxw i hi))).trans (hcxw i hi)
  have hcy := fun i hi => ((unhide B0).cell (block_lt_of_cell (hcyw i hi))).trans (hcyw i hi)
  have hbx : bb1 < w.heap.size := block_lt_of_cell (hcxw 0 (by omega))
  have hby : bb < w.heap.size := block_lt_of_cell (hcyw 0 (by omega))
  have hnx : ¬ (w.heap.size + 1 = bb1) := by omega
  have hny : ¬ (w.heap.size + 1 = bb) := by omega
  have hnx2 : ¬ (bb1 = w.heap.size + 1) := by omega
  have hny2 : ¬ (bb = w.heap.size + 1) := by omega
  clear F hlen h1 h2 hcxw hcyw
  have HCX := hide hcx
  have HCY := hide hcy
  have g0 := hcx 0 (by omega)
  have g1 := hcx (xs.length - 1) (by omega)
  simp only [Nat.add_zero] at g0
  have lt0 := block_lt_of_cell g0
  have hi0 : (0 : Int) < (xs.length : Int) := by omega
  have hwr : IntKind.i64.wrap ((xs.length : Int) - 1) = (xs.length : Int) - 1 := by rw [IntKind.wrap_i64]; omega
  have hj0 : (0 : Int) ≤ (xs.length : Int) - 1 := by omega
  have hj1 : (xs.length : Int) - 1 < (xs.length : Int) := by omega
  have hjt : ((xs.length : Int) - 1).toNat = xs.length - 1 := by omega
  have ha1 : (1 : Int) ≤ (xs.length : Int) := by omega
  have ha2 : 1 ≤ xs.length := by omega
  have ha3 : 0 < xs.length := by omega
  clear hcx hcy
  go_enter Try.func8, Try.ntmps8
  go_wp2_with fail
  refine (implCurveOk_is _ _ _ _ _ _ xs ys _ hc (unhide H1) (unhide H2)).mono ?_
  rintro e w1 ⟨rfl, b1⟩
  have hs1 : w.heap.size + 1 < w1.heap.size := by have := b1.size; simp at this; omega
  have hs0 : w.heap.size < w1.heap.size := by omega
  have x0 : w1.cell? ⟨w.heap.size, 0, none⟩ = some (.slice (some ⟨bb1, off1, none⟩) xs.length c1) := (b1.cell (p := ⟨w.heap.size, 0, none⟩) (by simp; omega)).trans (by simp [go_sem])
  have x1 : w1.cell? ⟨w.heap.size, 1, none⟩ = some (.slice (some ⟨bb, off, none⟩) ys.length c2) := (b1.cell (p := ⟨w.heap.size, 1, none⟩) (by simp; omega)).trans (by simp [go_sem])
  have e0 : w1.cell? ⟨w.heap.size + 1, 0, none⟩ = some (.int .i64 0) := (b1.cell (p := ⟨w.heap.size + 1, 0, none⟩) (by simp)).trans (by simp [go_sem])
  have e1 : w1.cell? ⟨w.heap.size + 1, 1, none⟩ = some (.int .i64 0) := (b1.cell (p := ⟨w.heap.size + 1, 1, none⟩) (by simp)).trans (by simp [go_sem])
  have f0 : w1.frozen? ⟨w.heap.size + 1, 0, none⟩ = false := (b1.frozen (p := ⟨w.heap.size + 1, 0, none⟩) (by simp)).trans (by simp [go_sem])
  have f1 : w1.frozen? ⟨w.heap.size + 1, 1, none⟩ = false := (b1.frozen (p := ⟨w.heap.size + 1, 1, none⟩) (by simp)).trans (by simp [go_sem])
  have g0 := (b1.cell (p := ⟨bb1, off1, none⟩) lt0).trans g0
  have g1 := (b1.cell (p := ⟨bb1, off1 + (xs.length - 1), none⟩) lt0).trans g1
  have lt1 : bb1 < w1.heap.size := by omega
  have B1 := hide ((unhide B0).trans (b1.mono (by simp; omega)))
  have A1 := hide ((unhide H1).below b1)
  have A2 := hide ((unhide H2).below b1)
  clear b1 HCX HCY H1 H2
  go_wp2_with fail
  go_quiet (fail)
  go_wp2_with fail
  all_goals
    refine (implAt_is (z := heldX xs x) _ _ _ _ _ _ xs ys _ _ (by rw [← unhide HH]; omega) ((unhide A1).drewN _) ((unhide A2).drewN _) (by omega) (by omega)).mono ?_
    rintro e w2 ⟨rfl, b2⟩
    have e0 := (b2.cell (p := ⟨w.heap.size + 1, 0, none⟩) hs1).trans e0
    have e1 := (b2.cell (p := ⟨w.heap.size + 1, 1, none⟩) hs1).trans e1
    have f0 := (b2.frozen (p := ⟨w.heap.size + 1, 0, none⟩) hs1).trans f0
    have f1 := (b2.frozen (p := ⟨w.heap.size + 1, 1, none⟩) hs1).trans f1
    have B2 := hide ((unhide B1).trans (((bel0d' _).trans (b2.mono (Nat.le_refl _))).mono (by simp; omega)))
    clear b2
    go_wp2
    refine bodyPost_ret (v := .tuple #[.agg #[.int .i64 (atN xs ys (heldX xs x)), .int .i64 (atD xs ys (heldX xs x))], .bool (atFlag xs ys (heldX xs x))]) (by simp [results, Try.results8, go_sem, *]) rfl ⟨rfl, ?_⟩
    repeat (first | exact unhide B2 | refine Below.setCell ?_ (by simp; try omega) _)

theorem implHeld_any (a1 a2 : Option Addr) (l1 c1 l2 c2 : Nat) (xs ys : List Int) (x : Int) (w : World) (h1 : Row w a1 l1 xs) (h2 : Row w a2 l2 ys) (hcap1 : l1 ≤ c1) (hcap2 : l2 ≤ c2) :
    Calls Try.prog 8 #[.agg #[.slice a1 l1 c1, .slice a2 l2 c2], .int .i64 x] w fun e w' => e = .returned (.tuple #[.agg #[.int .i64 (atN xs ys (heldX xs x)), .int .i64 (atD xs ys (heldX xs x))], .bool (atFlag xs ys (heldX xs x))]) ∧ Below w.heap.size w w' := by
  cases hc : curveB xs ys
  · have e3 : atFlag xs ys (heldX xs x) = false := by simp [atFlag, hc]
    have e1 : atN xs ys (heldX xs x) = 0 := by simp [atN, e3]
    have e2 : atD xs ys (heldX xs x) = 0 := by simp [atD, e3]
    rw [e1, e2, e3]
    exact implHeld_no a1 a2 l1 c1 l2 c2 xs ys x w h1 h2 hc
  · exact implHeld_yes a1 a2 l1 c1 l2 c2 xs ys x w h1 h2 hcap1 hcap2 hc

end Go.Proofs.Ytikhfacgoglcfaa
