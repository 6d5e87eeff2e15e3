/-
  What Inside answers in the program: the plain test at every envelope whose lists have no less room than length, and every sum; nothing that was there is written.
-/
import Derived.Test.YtbaocifpifbldaaInsPure
import Derived.Test.YtbaocifpifbldaaEnvImpl
import Derived.Test.YtbaocifpifbldaaLow
import Derived.Test.YtbaocifpifbldaaBel
namespace Go.Proofs.Ytbaocifpifbldaa
open Go.RowKit

theorem quietMore0 {P : Program} {f : FuncId} {args : Array Value} {X Y : World} {v : Value} (h : Calls P f args Y fun e w' => e = .returned v ∧ ∃ m, w' = Y.drewN m) {a n : Nat} (hY : Y = X.drewN (a + n) := by rfl) : Calls P f args Y fun e w'' => e = .returned v ∧ ∃ m, w'' = X.drewN (a + m) :=
  h.mono fun _ _ ⟨he, m, hm⟩ => ⟨he, n + m, by rw [hm, hY, World.drewN_drewN, Nat.add_assoc]⟩

set_option maxHeartbeats 1000000 in
theorem passes_fore {c : Bool} (b1 o1 b2 o2 : Nat) (x0 x1 y0 y1 m q : Int) (w : World) (h1 : 0 ≤ x0 ∧ x0 ≤ 400000) (h2 : 0 ≤ x1 ∧ x1 ≤ 400000) (h3 : -1000 ≤ y0 ∧ y0 ≤ 1000) (h4 : -1000 ≤ y1 ∧ y1 ≤ 1000) (h5 : 0 ≤ m ∧ m ≤ 400000) (h6 : -1000000000 ≤ q ∧ q ≤ 1000000000)
    (e0 : w.cell? ⟨b1, o1, none⟩ = some (.int .i64 x0)) (e1 : w.cell? ⟨b1, o1 + 1, none⟩ = some (.int .i64 x1)) (f0 : w.cell? ⟨b2, o2, none⟩ = some (.int .i64 y0)) (f1 : w.cell? ⟨b2, o2 + 1, none⟩ = some (.int .i64 y1))
    (hc : decide (q * (x1 - x0) < (y0 * (x1 - x0) + (y1 - y0) * (m - x0)) * m) = c) :
    Calls Try.prog 56 #[.agg #[.int .i64 m, .int .i64 q], .slice (some ⟨b1, o1, none⟩) 2 2, .slice (some ⟨b2, o2, none⟩) 2 2, .int .i64 (-1)] w fun e w' => e = .returned (.bool c) ∧ Below w.heap.size w w' := by
  subst hc
  obtain ⟨p1, p2, p3, p4⟩ := bnd_bd (q := q) h1 h2 h3 h4 h5 h6
  have lt1 := block_lt_of_cell e0
  have lt2 := block_lt_of_cell f0
  have e0 := ((bel1 (w := w) (.cells #[.int .i64 m, .int .i64 q] 54)).cell lt1).trans e0
  have e1 := ((bel1 (w := w) (.cells #[.int .i64 m, .int .i64 q] 54)).cell (p := ⟨b1, o1 + 1, none⟩) lt1).trans e1
  have f0 := ((bel1 (w := w) (.cells #[.int .i64 m, .int .i64 q] 54)).cell lt2).trans f0
  have f1 := ((bel1 (w := w) (.cells #[.int .i64 m, .int .i64 q] 54)).cell (p := ⟨b2, o2 + 1, none⟩) lt2).trans f1
  go_enter Try.func56, Try.ntmps56
  go_wp2_with fail
  go_quiet (fail)
  go_wp2_with fail
  go_quiet ((go_at_call 43; exact quietMore0 (scaled_any _ _ _ _ x0 x1 y0 y1 m 400000 1000 _ (by omega) (by omega) (by omega) (by omega) (by omega) (by omega) (by omega) (by omega) (by omega) (by omega) (by omega) (by simpa using e0) (by simpa using e1) (by simpa using f0) (by simpa using f1))))
  by_cases hx : q * (x1 - x0) < (y0 * (x1 - x0) + (y1 - y0) * (m - x0)) * m
  all_goals
    go_wp2
    go_ret
    refine ⟨ret_bool ?_, (bel1 _).trans (bel0d' _)⟩
    first | (simp; omega) | simp [hx]

set_option maxHeartbeats 1000000 in
theorem passes_aft {c : Bool} (b1 o1 b2 o2 : Nat) (x0 x1 y0 y1 m q : Int) (w : World) (h1 : 0 ≤ x0 ∧ x0 ≤ 400000) (h2 : 0 ≤ x1 ∧ x1 ≤ 400000) (h3 : -1000 ≤ y0 ∧ y0 ≤ 1000) (h4 : -1000 ≤ y1 ∧ y1 ≤ 1000) (h5 : 0 ≤ m ∧ m ≤ 400000) (h6 : -1000000000 ≤ q ∧ q ≤ 1000000000)
    (e0 : w.cell? ⟨b1, o1, none⟩ = some (.int .i64 x0)) (e1 : w.cell? ⟨b1, o1 + 1, none⟩ = some (.int .i64 x1)) (f0 : w.cell? ⟨b2, o2, none⟩ = some (.int .i64 y0)) (f1 : w.cell? ⟨b2, o2 + 1, none⟩ = some (.int .i64 y1))
    (hc : decide ((y0 * (x1 - x0) + (y1 - y0) * (m - x0)) * m < q * (x1 - x0)) = c) :
    Calls Try.prog 56 #[.agg #[.int .i64 m, .int .i64 q], .slice (some ⟨b1, o1, none⟩) 2 2, .slice (some ⟨b2, o2, none⟩) 2 2, .int .i64 1] w fun e w' => e = .returned (.bool c) ∧ Below w.heap.size w w' := by
  subst hc
  obtain ⟨p1, p2, p3, p4⟩ := bnd_bd (q := q) h1 h2 h3 h4 h5 h6
  have lt1 := block_lt_of_cell e0
  have lt2 := block_lt_of_cell f0
  have e0 := ((bel1 (w := w) (.cells #[.int .i64 m, .int .i64 q] 54)).cell lt1).trans e0
  have e1 := ((bel1 (w := w) (.cells #[.int .i64 m, .int .i64 q] 54)).cell (p := ⟨b1, o1 + 1, none⟩) lt1).trans e1
  have f0 := ((bel1 (w := w) (.cells #[.int .i64 m, .int .i64 q] 54)).cell lt2).trans f0
  have f1 := ((bel1 (w := w) (.cells #[.int .i64 m, .int .i64 q] 54)).cell (p := ⟨b2, o2 + 1, none⟩) lt2).trans f1
  go_enter Try.func56, Try.ntmps56
  go_wp2_with fail
  go_quiet (fail)
  go_wp2_with fail
  go_quiet ((go_at_call 43; exact quietMore0 (scaled_any _ _ _ _ x0 x1 y0 y1 m 400000 1000 _ (by omega) (by omega) (by omega) (by omega) (by omega) (by omega) (by omega) (by omega) (by omega) (by omega) (by omega) (by simpa using e0) (by simpa using e1) (by simpa using f0) (by simpa using f1))))
  by_cases hx : (y0 * (x1 - x0) + (y1 - y0) * (m - x0)) * m < q * (x1 - x0)
  all_goals
    go_wp2
    go_ret
    refine ⟨ret_bool ?_, (bel1 _).trans (bel0d' _)⟩
    first | (simp; omega) | simp [hx]

end Go.Proofs.Ytbaocifpifbldaa
