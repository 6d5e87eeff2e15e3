/-
  What Order answers in the model: the plain plan and flag, at every envelope, dry sum, tanks and step; the plan owns its memory; nothing that was there is written.
-/
import Derived.Test.YtbaocifpifbldajOrdImpl
import Derived.Test.YtbaocifpifbldajFuelSpec
import Derived.Test.YtbaocifpifbldajInsSpec
namespace Go.Proofs.Ytbaocifpifbldaj
open Go.RowKit

set_option maxHeartbeats 400000 in
theorem l1Min_any (x y : Int) (w : World) :
    Calls Try.prog 63 #[.int .i64 x, .int .i64 y] w fun e w' => e = .returned (.int .i64 (min x y)) ∧ w' = w := by
  by_cases h : x < y
  · go_enter Try.func63, Try.ntmps63
    go_wp2
    go_ret
    exact ⟨ret_int (by omega), rfl⟩
  · go_enter Try.func63, Try.ntmps63
    go_wp2
    go_ret
    exact ⟨ret_int (by omega), rfl⟩
theorem l1Min_is {c : Int} (x y : Int) (w : World) (hc : min x y = c) :
    Calls Try.prog 63 #[.int .i64 x, .int .i64 y] w fun e w' => e = .returned (.int .i64 c) ∧ w' = w := by
  subst hc; exact l1Min_any x y w
theorem specInside_is {c : Bool} (a1 a2 a3 : Option Addr) (l1 c1 l2 c2 l3 c3 : Nat) (ms fs gs : List Int) (m q : Int) (w : World) (hc : insB ms fs gs m q = c) (h1 : Row w a1 l1 ms) (h2 : Row w a2 l2 fs) (h3 : Row w a3 l3 gs) :
    Calls Try.prog 14 #[.agg #[.slice a1 l1 c1, .slice a2 l2 c2, .slice a3 l3 c3], .agg #[.int .i64 m, .int .i64 q]] w fun e w' => e = .returned (.bool c) ∧ Below w.heap.size w w' := by
  subst hc; exact specInside_any a1 a2 a3 l1 c1 l2 c2 l3 c3 ms fs gs m q w h1 h2 h3

set_option maxHeartbeats 2000000 in
theorem specOrder_dry (a1 a2 a3 : Option Addr) (l1 c1 l2 c2 l3 c3 : Nat) (ms fs gs : List Int) (dm dq step : Int) (tb toff tl tc : Nat) (ts : List (Int × Int)) (w : World) (h1 : Row w a1 l1 ms) (h2 : Row w a2 l2 fs) (h3 : Row w a3 l3 gs) (hr : Row2 w (some ⟨tb, toff, none⟩) tl ts) (he : (envB ms fs gs && dryB dm dq) = false) :
    Calls Try.prog 30 #[.agg #[.slice a1 l1 c1, .slice a2 l2 c2, .slice a3 l3 c3], .agg #[.int .i64 dm, .int .i64 dq], .slice (some ⟨tb, toff, none⟩) tl tc, .int .i64 step] w fun e w' => ∃ a c, e = .returned (.tuple #[.slice a ([] : List (Int × Int)).length c, .bool (false)]) ∧ Own2 w' w.heap.size 76 (.slice a ([] : List (Int × Int)).length c) ([] : List (Int × Int)) ∧ Below w.heap.size w w' := by
  have B0 := hide (bel2 (w := w) (.cells #[.slice a1 l1 c1, .slice a2 l2 c2, .slice a3 l3 c3] 27) (.cells #[.int .i64 dm, .int .i64 dq] 34))
  obtain ⟨W, hW⟩ : ∃ W, W = (w.alloc (.cells #[.slice a1 l1 c1, .slice a2 l2 c2, .slice a3 l3 c3] 27)).alloc (.cells #[.int .i64 dm, .int .i64 dq] 34) := ⟨_, rfl⟩
  have x0 : W.cell? ⟨w.heap.size, 0, none⟩ = some (.slice a1 l1 c1) := by rw [hW]; simp [go_sem]
  have x1 : W.cell? ⟨w.heap.size, 1, none⟩ = some (.slice a2 l2 c2) := by rw [hW]; simp [go_sem]
  have x2 : W.cell? ⟨w.heap.size, 2, none⟩ = some (.slice a3 l3 c3) := by rw [hW]; simp [go_sem]
  have y0 : W.cell? ⟨w.heap.size + 1, 0, none⟩ = some (.int .i64 dm) := by rw [hW]; simp [go_sem]
  have y1 : W.cell? ⟨w.heap.size + 1, 1, none⟩ = some (.int .i64 dq) := by rw [hW]; simp [go_sem]
  have sW : W.heap.size = w.heap.size + 1 + 1 := by rw [hW]; simp
  rw [← hW] at B0
  have O0 : Own2 (W.alloc (Obj.cells #[] 76)) (w.heap.size + 1 + 1) 76 (.slice (some ⟨w.heap.size + 1 + 1, 0, none⟩) 0 0) [] := by rw [← sW]; exact own2_none (w := W) (w1 := W) 76 (Nat.le_refl _)
  obtain ⟨ι, f, hne, hbel, hall⟩ := belClass W
  obtain ⟨xw, hxw⟩ := hall _ (bel1 (w := W) (Obj.cells #[] 76))
  rw [hxw] at O0
  have x0 : ∀ x, (f x).cell? ⟨w.heap.size, 0, none⟩ = some (.slice a1 l1 c1) := fun x => ((hbel x).cell (p := ⟨w.heap.size, 0, none⟩) (by simp; omega)).trans x0
  have x1 : ∀ x, (f x).cell? ⟨w.heap.size, 1, none⟩ = some (.slice a2 l2 c2) := fun x => ((hbel x).cell (p := ⟨w.heap.size, 1, none⟩) (by simp; omega)).trans x1
  have x2 : ∀ x, (f x).cell? ⟨w.heap.size, 2, none⟩ = some (.slice a3 l3 c3) := fun x => ((hbel x).cell (p := ⟨w.heap.size, 2, none⟩) (by simp; omega)).trans x2
  have y0 : ∀ x, (f x).cell? ⟨w.heap.size + 1, 0, none⟩ = some (.int .i64 dm) := fun x => ((hbel x).cell (p := ⟨w.heap.size + 1, 0, none⟩) (by simp; omega)).trans y0
  have y1 : ∀ x, (f x).cell? ⟨w.heap.size + 1, 1, none⟩ = some (.int .i64 dq) := fun x => ((hbel x).cell (p := ⟨w.heap.size + 1, 1, none⟩) (by simp; omega)).trans y1
  have HB := hide fun x => (unhide B0).trans ((hbel x).mono (by omega))
  have H1 := hide fun x => h1.below (unhide HB x)
  have H2 := hide fun x => h2.below (unhide HB x)
  have H3 := hide fun x => h3.below (unhide HB x)
  have HR := hide fun x => hr.below (unhide HB x)
  have HL := hide hbel
  have HX := hide hall
  have HZ : Hid (∀ x, w.heap.size + 1 + 1 ≤ (f x).heap.size) := hide fun x => by have := (hbel x).size; omega
  have SW := hide sW
  have OP := hide O0
  clear hbel hall B0 sW h1 h2 h3 hr O0
  go_enter Try.func30, Try.ntmps30
  go_wp2_with fail
  rw [← hW, hxw]
  clear hW hxw
  refine (l2Dry_is _ _ _ _ _ _ _ _ _ ms fs gs dm dq _ he (unhide H1 xw) (unhide H2 xw) (unhide H3 xw)).mono ?_
  rintro e w1 ⟨rfl, b1⟩
  obtain ⟨xv, rfl⟩ := unhide HX _ ((unhide HL xw).trans (b1.mono (unhide HL xw).size))
  have OP := hide ((unhide OP).below b1)
  clear b1
  go_wp2_with fail
  go_ret2
  exact ⟨_, _, rfl, (unhide OP).mono (by omega), unhide HB xv⟩

set_option maxHeartbeats 2000000 in
theorem specOrder_tan (a1 a2 a3 : Option Addr) (l1 c1 l2 c2 l3 c3 : Nat) (ms fs gs : List Int) (dm dq step : Int) (tb toff tl tc : Nat) (ts : List (Int × Int)) (w : World) (h1 : Row w a1 l1 ms) (h2 : Row w a2 l2 fs) (h3 : Row w a3 l3 gs) (hr : Row2 w (some ⟨tb, toff, none⟩) tl ts) (he : (envB ms fs gs && dryB dm dq) = true) (ht : tanksB ts = false) :
    Calls Try.prog 30 #[.agg #[.slice a1 l1 c1, .slice a2 l2 c2, .slice a3 l3 c3], .agg #[.int .i64 dm, .int .i64 dq], .slice (some ⟨tb, toff, none⟩) tl tc, .int .i64 step] w fun e w' => ∃ a c, e = .returned (.tuple #[.slice a ([] : List (Int × Int)).length c, .bool (false)]) ∧ Own2 w' w.heap.size 76 (.slice a ([] : List (Int × Int)).length c) ([] : List (Int × Int)) ∧ Below w.heap.size w w' := by
  have B0 := hide (bel2 (w := w) (.cells #[.slice a1 l1 c1, .slice a2 l2 c2, .slice a3 l3 c3] 27) (.cells #[.int .i64 dm, .int .i64 dq] 34))
  obtain ⟨W, hW⟩ : ∃ W, W = (w.alloc (.cells #[.slice a1 l1 c1, .slice a2 l2 c2, .slice a3 l3 c3] 27)).alloc (.cells #[.int .i64 dm, .int .i64 dq] 34) := ⟨_, rfl⟩
  have x0 : W.cell? ⟨w.heap.size, 0, none⟩ = some (.slice a1 l1 c1) := by rw [hW]; simp [go_sem]
  have x1 : W.cell? ⟨w.heap.size, 1, none⟩ = some (.slice a2 l2 c2) := by rw [hW]; simp [go_sem]
  have x2 : W.cell? ⟨w.heap.size, 2, none⟩ = some (.slice a3 l3 c3) := by rw [hW]; simp [go_sem]
  have y0 : W.cell? ⟨w.heap.size + 1, 0, none⟩ = some (.int .i64 dm) := by rw [hW]; simp [go_sem]
  have y1 : W.cell? ⟨w.heap.size + 1, 1, none⟩ = some (.int .i64 dq) := by rw [hW]; simp [go_sem]
  have sW : W.heap.size = w.heap.size + 1 + 1 := by rw [hW]; simp
  rw [← hW] at B0
  have O0 : Own2 (W.alloc (Obj.cells #[] 76)) (w.heap.size + 1 + 1) 76 (.slice (some ⟨w.heap.size + 1 + 1, 0, none⟩) 0 0) [] := by rw [← sW]; exact own2_none (w := W) (w1 := W) 76 (Nat.le_refl _)
  obtain ⟨ι, f, hne, hbel, hall⟩ := belClass W
  obtain ⟨xw, hxw⟩ := hall _ (bel1 (w := W) (Obj.cells #[] 76))
  rw [hxw] at O0
  have x0 : ∀ x, (f x).cell? ⟨w.heap.size, 0, none⟩ = some (.slice a1 l1 c1) := fun x => ((hbel x).cell (p := ⟨w.heap.size, 0, none⟩) (by simp; omega)).trans x0
  have x1 : ∀ x, (f x).cell? ⟨w.heap.size, 1, none⟩ = some (.slice a2 l2 c2) := fun x => ((hbel x).cell (p := ⟨w.heap.size, 1, none⟩) (by simp; omega)).trans x1
  have x2 : ∀ x, (f x).cell? ⟨w.heap.size, 2, none⟩ = some (.slice a3 l3 c3) := fun x => ((hbel x).cell (p := ⟨w.heap.size, 2, none⟩) (by simp; omega)).trans x2
  have y0 : ∀ x, (f x).cell? ⟨w.heap.size + 1, 0, none⟩ = some (.int .i64 dm) := fun x => ((hbel x).cell (p := ⟨w.heap.size + 1, 0, none⟩) (by simp; omega)).trans y0
  have y1 : ∀ x, (f x).cell? ⟨w.heap.size + 1, 1, none⟩ = some (.int .i64 dq) := fun x => ((hbel x).cell (p := ⟨w.heap.size + 1, 1, none⟩) (by simp; omega)).trans y1
  have HB := hide fun x => (unhide B0).trans ((hbel x).mono (by omega))
  have H1 := hide fun x => h1.below (unhide HB x)
  have H2 := hide fun x => h2.below (unhide HB x)
  have H3 := hide fun x => h3.below (unhide HB x)
  have HR := hide fun x => hr.below (unhide HB x)
  have HL := hide hbel
  have HX := hide hall
  have HZ : Hid (∀ x, w.heap.size + 1 + 1 ≤ (f x).heap.size) := hide fun x => by have := (hbel x).size; omega
  have SW := hide sW
  have OP := hide O0
  clear hbel hall B0 sW h1 h2 h3 hr O0
  go_enter Try.func30, Try.ntmps30
  go_wp2_with fail
  rw [← hW, hxw]
  clear hW hxw
  refine (l2Dry_is _ _ _ _ _ _ _ _ _ ms fs gs dm dq _ he (unhide H1 xw) (unhide H2 xw) (unhide H3 xw)).mono ?_
  rintro e w1 ⟨rfl, b1⟩
  obtain ⟨xv, rfl⟩ := unhide HX _ ((unhide HL xw).trans (b1.mono (unhide HL xw).size))
  have OP := hide ((unhide OP).below b1)
  clear b1
  go_wp2_with fail
  refine (l2Tanks_is _ _ _ ts _ ht (unhide HR xv)).mono ?_
  rintro e w' ⟨rfl, hw⟩
  subst w'
  go_wp2_with fail
  go_ret2
  exact ⟨_, _, rfl, (unhide OP).mono (by omega), unhide HB xv⟩

set_option maxHeartbeats 2000000 in
theorem specOrder_stp (a1 a2 a3 : Option Addr) (l1 c1 l2 c2 l3 c3 : Nat) (ms fs gs : List Int) (dm dq step : Int) (tb toff tl tc : Nat) (ts : List (Int × Int)) (w : World) (h1 : Row w a1 l1 ms) (h2 : Row w a2 l2 fs) (h3 : Row w a3 l3 gs) (hr : Row2 w (some ⟨tb, toff, none⟩) tl ts) (he : (envB ms fs gs && dryB dm dq) = true) (ht : tanksB ts = true) (hs : inB step 1 10000 = false) :
    Calls Try.prog 30 #[.agg #[.slice a1 l1 c1, .slice a2 l2 c2, .slice a3 l3 c3], .agg #[.int .i64 dm, .int .i64 dq], .slice (some ⟨tb, toff, none⟩) tl tc, .int .i64 step] w fun e w' => ∃ a c, e = .returned (.tuple #[.slice a ([] : List (Int × Int)).length c, .bool (false)]) ∧ Own2 w' w.heap.size 76 (.slice a ([] : List (Int × Int)).length c) ([] : List (Int × Int)) ∧ Below w.heap.size w w' := by
  have B0 := hide (bel2 (w := w) (.cells #[.slice a1 l1 c1, .slice a2 l2 c2, .slice a3 l3 c3] 27) (.cells #[.int .i64 dm, .int .i64 dq] 34))
  obtain ⟨W, hW⟩ : ∃ W, W = (w.alloc (.cells #[.slice a1 l1 c1, .slice a2 l2 c2, .slice a3 l3 c3] 27)).alloc (.cells #[.int .i64 dm, .int .i64 dq] 34) := ⟨_, rfl⟩
  have x0 : W.cell? ⟨w.heap.size, 0, none⟩ = some (.slice a1 l1 c1) := by rw [hW]; simp [go_sem]
  have x1 : W.cell? ⟨w.heap.size, 1, none⟩ = some (.slice a2 l2 c2) := by rw [hW]; simp [go_sem]
  have x2 : W.cell? ⟨w.heap.size, 2, none⟩ = some (.slice a3 l3 c3) := by rw [hW]; simp [go_sem]
  have y0 : W.cell? ⟨w.heap.size + 1, 0, none⟩ = some (.int .i64 dm) := by rw [hW]; simp [go_sem]
  have y1 : W.cell? ⟨w.heap.size + 1, 1, none⟩ = some (.int .i64 dq) := by rw [hW]; simp [go_sem]
  have sW : W.heap.size = w.heap.size + 1 + 1 := by rw [hW]; simp
  rw [← hW] at B0
  have O0 : Own2 (W.alloc (Obj.cells #[] 76)) (w.heap.size + 1 + 1) 76 (.slice (some ⟨w.heap.size + 1 + 1, 0, none⟩) 0 0) [] := by rw [← sW]; exact own2_none (w := W) (w1 := W) 76 (Nat.le_refl _)
  obtain ⟨ι, f, hne, hbel, hall⟩ := belClass W
  obtain ⟨xw, hxw⟩ := hall _ (bel1 (w := W) (Obj.cells #[] 76))
  rw [hxw] at O0
  have x0 : ∀ x, (f x).cell? ⟨w.heap.size, 0, none⟩ = some (.slice a1 l1 c1) := fun x => ((hbel x).cell (p := ⟨w.heap.size, 0, none⟩) (by simp; omega)).trans x0
  have x1 : ∀ x, (f x).cell? ⟨w.heap.size, 1, none⟩ = some (.slice a2 l2 c2) := fun x => ((hbel x).cell (p := ⟨w.heap.size, 1, none⟩) (by simp; omega)).trans x1
  have x2 : ∀ x, (f x).cell? ⟨w.heap.size, 2, none⟩ = some (.slice a3 l3 c3) := fun x => ((hbel x).cell (p := ⟨w.heap.size, 2, none⟩) (by simp; omega)).trans x2
  have y0 : ∀ x, (f x).cell? ⟨w.heap.size + 1, 0, none⟩ = some (.int .i64 dm) := fun x => ((hbel x).cell (p := ⟨w.heap.size + 1, 0, none⟩) (by simp; omega)).trans y0
  have y1 : ∀ x, (f x).cell? ⟨w.heap.size + 1, 1, none⟩ = some (.int .i64 dq) := fun x => ((hbel x).cell (p := ⟨w.heap.size + 1, 1, none⟩) (by simp; omega)).trans y1
  have HB := hide fun x => (unhide B0).trans ((hbel x).mono (by omega))
  have H1 := hide fun x => h1.below (unhide HB x)
  have H2 := hide fun x => h2.below (unhide HB x)
  have H3 := hide fun x => h3.below (unhide HB x)
  have HR := hide fun x => hr.below (unhide HB x)
  have HL := hide hbel
  have HX := hide hall
  have HZ : Hid (∀ x, w.heap.size + 1 + 1 ≤ (f x).heap.size) := hide fun x => by have := (hbel x).size; omega
  have SW := hide sW
  have OP := hide O0
  clear hbel hall B0 sW h1 h2 h3 hr O0
  go_enter Try.func30, Try.ntmps30
  go_wp2_with fail
  rw [← hW, hxw]
  clear hW hxw
  refine (l2Dry_is _ _ _ _ _ _ _ _ _ ms fs gs dm dq _ he (unhide H1 xw) (unhide H2 xw) (unhide H3 xw)).mono ?_
  rintro e w1 ⟨rfl, b1⟩
  obtain ⟨xv, rfl⟩ := unhide HX _ ((unhide HL xw).trans (b1.mono (unhide HL xw).size))
  have OP := hide ((unhide OP).below b1)
  clear b1
  go_wp2_with fail
  refine (l2Tanks_is _ _ _ ts _ ht (unhide HR xv)).mono ?_
  rintro e w' ⟨rfl, hw⟩
  subst w'
  go_wp2_with fail
  refine (l1In_is _ _ _ _ hs).mono ?_
  rintro e w' ⟨rfl, hw⟩
  subst w'
  go_wp2_with fail
  go_ret2
  exact ⟨_, _, rfl, (unhide OP).mono (by omega), unhide HB xv⟩

set_option maxHeartbeats 4000000 in
theorem specOrder_out (a1 a2 a3 : Option Addr) (l1 c1 l2 c2 l3 c3 : Nat) (ms fs gs : List Int) (dm dq step : Int) (tb toff tl tc : Nat) (ts : List (Int × Int)) (w : World) (h1 : Row w a1 l1 ms) (h2 : Row w a2 l2 fs) (h3 : Row w a3 l3 gs) (hr : Row2 w (some ⟨tb, toff, none⟩) tl ts) (he : (envB ms fs gs && dryB dm dq) = true) (ht : tanksB ts = true) (hs : inB step 1 10000 = true) (hi : insB ms fs gs (dm + sumM ts ts.length) (dq + sumQ ts ts.length) = false) :
    Calls Try.prog 30 #[.agg #[.slice a1 l1 c1, .slice a2 l2 c2, .slice a3 l3 c3], .agg #[.int .i64 dm, .int .i64 dq], .slice (some ⟨tb, toff, none⟩) tl tc, .int .i64 step] w fun e w' => ∃ a c, e = .returned (.tuple #[.slice a ([] : List (Int × Int)).length c, .bool (false)]) ∧ Own2 w' w.heap.size 76 (.slice a ([] : List (Int × Int)).length c) ([] : List (Int × Int)) ∧ Below w.heap.size w w' := by
  have hlen := hr.len_eq
  subst hlen
  have hd : dryB dm dq = true := by simp only [Bool.and_eq_true] at he; exact he.2
  have h8 := (tanks_facts ht).1
  have HIT := hide (tanks_facts ht).2
  have HD := hide hd
  have hst := in_facts hs
  have B0 := hide (bel2 (w := w) (.cells #[.slice a1 l1 c1, .slice a2 l2 c2, .slice a3 l3 c3] 27) (.cells #[.int .i64 dm, .int .i64 dq] 34))
  obtain ⟨W, hW⟩ : ∃ W, W = (w.alloc (.cells #[.slice a1 l1 c1, .slice a2 l2 c2, .slice a3 l3 c3] 27)).alloc (.cells #[.int .i64 dm, .int .i64 dq] 34) := ⟨_, rfl⟩
  have x0 : W.cell? ⟨w.heap.size, 0, none⟩ = some (.slice a1 l1 c1) := by rw [hW]; simp [go_sem]
  have x1 : W.cell? ⟨w.heap.size, 1, none⟩ = some (.slice a2 l2 c2) := by rw [hW]; simp [go_sem]
  have x2 : W.cell? ⟨w.heap.size, 2, none⟩ = some (.slice a3 l3 c3) := by rw [hW]; simp [go_sem]
  have y0 : W.cell? ⟨w.heap.size + 1, 0, none⟩ = some (.int .i64 dm) := by rw [hW]; simp [go_sem]
  have y1 : W.cell? ⟨w.heap.size + 1, 1, none⟩ = some (.int .i64 dq) := by rw [hW]; simp [go_sem]
  have sW : W.heap.size = w.heap.size + 1 + 1 := by rw [hW]; simp
  rw [← hW] at B0
  have O0 : Own2 (W.alloc (Obj.cells #[] 76)) (w.heap.size + 1 + 1) 76 (.slice (some ⟨w.heap.size + 1 + 1, 0, none⟩) 0 0) [] := by rw [← sW]; exact own2_none (w := W) (w1 := W) 76 (Nat.le_refl _)
  obtain ⟨ι, f, hne, hbel, hall⟩ := belClass W
  obtain ⟨xw, hxw⟩ := hall _ (bel1 (w := W) (Obj.cells #[] 76))
  rw [hxw] at O0
  have x0 : ∀ x, (f x).cell? ⟨w.heap.size, 0, none⟩ = some (.slice a1 l1 c1) := fun x => ((hbel x).cell (p := ⟨w.heap.size, 0, none⟩) (by simp; omega)).trans x0
  have x1 : ∀ x, (f x).cell? ⟨w.heap.size, 1, none⟩ = some (.slice a2 l2 c2) := fun x => ((hbel x).cell (p := ⟨w.heap.size, 1, none⟩) (by simp; omega)).trans x1
  have x2 : ∀ x, (f x).cell? ⟨w.heap.size, 2, none⟩ = some (.slice a3 l3 c3) := fun x => ((hbel x).cell (p := ⟨w.heap.size, 2, none⟩) (by simp; omega)).trans x2
  have y0 : ∀ x, (f x).cell? ⟨w.heap.size + 1, 0, none⟩ = some (.int .i64 dm) := fun x => ((hbel x).cell (p := ⟨w.heap.size + 1, 0, none⟩) (by simp; omega)).trans y0
  have y1 : ∀ x, (f x).cell? ⟨w.heap.size + 1, 1, none⟩ = some (.int .i64 dq) := fun x => ((hbel x).cell (p := ⟨w.heap.size + 1, 1, none⟩) (by simp; omega)).trans y1
  have HB := hide fun x => (unhide B0).trans ((hbel x).mono (by omega))
  have H1 := hide fun x => h1.below (unhide HB x)
  have H2 := hide fun x => h2.below (unhide HB x)
  have H3 := hide fun x => h3.below (unhide HB x)
  have HR := hide fun x => hr.below (unhide HB x)
  have HL := hide hbel
  have HX := hide hall
  have HZ : Hid (∀ x, w.heap.size + 1 + 1 ≤ (f x).heap.size) := hide fun x => by have := (hbel x).size; omega
  have SW := hide sW
  have OP := hide O0
  clear hbel hall B0 sW h1 h2 h3 hr O0
  go_enter Try.func30, Try.ntmps30
  go_wp2_with fail
  rw [← hW, hxw]
  clear hW hxw
  refine (l2Dry_is _ _ _ _ _ _ _ _ _ ms fs gs dm dq _ he (unhide H1 xw) (unhide H2 xw) (unhide H3 xw)).mono ?_
  rintro e w1 ⟨rfl, b1⟩
  obtain ⟨xv, rfl⟩ := unhide HX _ ((unhide HL xw).trans (b1.mono (unhide HL xw).size))
  have OP := hide ((unhide OP).below b1)
  clear b1
  go_wp2_with fail
  refine (l2Tanks_is _ _ _ ts _ ht (unhide HR xv)).mono ?_
  rintro e w' ⟨rfl, hw⟩
  subst w'
  go_wp2_with fail
  refine (l1In_is _ _ _ _ hs).mono ?_
  rintro e w' ⟨rfl, hw⟩
  subst w'
  have hzt := unhide HZ xv
  have LQ : Hid (w.heap.size + 1 + 1 < (f xv).heap.size) := hide ((unhide OP).lies2 _ rfl).2
  have HF := hide (unhide HR xv).fit
  have HCC := hide (flat_cells ((unhide HR xv).alloc (Obj.cells #[] 78)))
  obtain ⟨i0, hii, hz0, hz1, hz2⟩ := info_parts infoTank
  go_wp2_with (at_builtin; refine wpList_append_own _ rfl _ _ 41 rfl (f xv).heap.size 78 i0 (.agg #[.int .i64 0, .int .i64 0]) 2 16 Try.underlying41 hii hz0 hz1 hz2 rfl (by decide) (.slice (some ⟨(f xv).heap.size, 0, none⟩) 0 0) 0 [] rfl (owns_none (f xv) _) ⟨tb, toff, none⟩ ts.length tc (flat ts) rfl (flat_len ts) (unhide HCC) (flat_one ts) (by unfold maxLen; omega) (by omega) (by simp) ?_; intro v1 w2 hown hgrow hnil; rw [Nat.zero_add, List.nil_append] at hown; obtain ⟨la, lc, hv, _, _⟩ := (own2_flat hown (unhide HF)).slice; subst hv; have oL := own2_flat hown (unhide HF); have b4 := (bel1 (w := f xv) (Obj.cells #[] 78)).grown hgrow (by simp) (fun k hk => by simp [Value.ownBlock] at hk; omega); clear hown hgrow hnil)
  have OL := hide (oL.mono (base' := w.heap.size + 1 + 1) hzt)
  have LL := hide oL.lies2
  obtain ⟨xs, rfl⟩ := unhide HX _ ((unhide HL xv).trans (b4.mono (unhide HL xv).size))
  have OP := hide ((unhide OP).below b4)
  clear b4
  clear hii hz0 hz1 hz2 oL HCC HF
  have DP : Hid (∀ g, (Value.slice (some ⟨w.heap.size + 1 + 1, 0, none⟩) 0 0).ownBlock = some g → (Value.slice la ts.length lc).ownBlock ≠ some g) := hide fun g hg => by
    simp only [Value.ownBlock, Option.some.injEq] at hg
    subst hg
    intro e
    have h2 := unhide LL _ e
    have h3 := unhide LQ
    omega
  have fd := dry_facts (unhide HD)
  obtain ⟨κ, g, hne2, hb2, hall2⟩ := belClass (f xs)
  have hgf : ∀ y, ∃ z, g y = f z := fun y => unhide HX _ ((unhide HL xs).trans ((hb2 y).mono (unhide HL xs).size))
  have g0 : ∀ y, (g y).cell? ⟨w.heap.size, 0, none⟩ = some (.slice a1 l1 c1) := fun y => by obtain ⟨z, hz⟩ := hgf y; rw [hz]; exact x0 z
  have g1 : ∀ y, (g y).cell? ⟨w.heap.size, 1, none⟩ = some (.slice a2 l2 c2) := fun y => by obtain ⟨z, hz⟩ := hgf y; rw [hz]; exact x1 z
  have g2 : ∀ y, (g y).cell? ⟨w.heap.size, 2, none⟩ = some (.slice a3 l3 c3) := fun y => by obtain ⟨z, hz⟩ := hgf y; rw [hz]; exact x2 z
  have g3 : ∀ y, (g y).cell? ⟨w.heap.size + 1, 0, none⟩ = some (.int .i64 dm) := fun y => by obtain ⟨z, hz⟩ := hgf y; rw [hz]; exact y0 z
  have g4 : ∀ y, (g y).cell? ⟨w.heap.size + 1, 1, none⟩ = some (.int .i64 dq) := fun y => by obtain ⟨z, hz⟩ := hgf y; rw [hz]; exact y1 z
  have G1 := hide fun y => show Row (g y) a1 l1 ms by obtain ⟨z, hz⟩ := hgf y; rw [hz]; exact unhide H1 z
  have G2 := hide fun y => show Row (g y) a2 l2 fs by obtain ⟨z, hz⟩ := hgf y; rw [hz]; exact unhide H2 z
  have G3 := hide fun y => show Row (g y) a3 l3 gs by obtain ⟨z, hz⟩ := hgf y; rw [hz]; exact unhide H3 z
  have LW := hide fun y => l2With_any dm dq la ts.length lc ts (g y) ((unhide OL).below (hb2 y)).row h8 (unhide HIT) fd.1 fd.2
  have GL := hide hb2
  have GX := hide hall2
  have HG := hide hgf
  clear hb2 hall2 hgf fd
  go_wp2_with fail
  refine wp_region_bel (unhide GX) (by kernel_rfl) (by kernel_rfl) ?_
  repeat (go_big_quiet_step (first
    | (go_at_call 59; exact belQ (unhide GL) (unhide GX) (unhide LW _))
    | (go_at_call 14; exact belQ (unhide GL) (unhide GX) (specInside_is _ _ _ _ _ _ _ _ _ ms fs gs _ _ _ hi (unhide G1 _) (unhide G2 _) (unhide G3 _)))))
  refine wpQuiet_nil ?_
  rintro _ ⟨y, rfl⟩
  have OP := hide ((unhide OP).below (unhide GL y))
  have OL := hide ((unhide OL).below (unhide GL y))
  obtain ⟨xp, hxp⟩ := unhide HG y
  rw [hxp] at OP OL ⊢
  clear hxp G1 G2 G3 LW GL GX HG g0 g1 g2 g3 g4 hne2
  go_wp2_with fail
  go_ret2
  exact ⟨_, _, rfl, (unhide OP).mono (by omega), unhide HB xp⟩

set_option maxRecDepth 20000 in
set_option maxHeartbeats 8000000 in
theorem specOrder_run (a1 a2 a3 : Option Addr) (l1 c1 l2 c2 l3 c3 : Nat) (ms fs gs : List Int) (dm dq step : Int) (tb toff tl tc : Nat) (ts : List (Int × Int)) (w : World) (h1 : Row w a1 l1 ms) (h2 : Row w a2 l2 fs) (h3 : Row w a3 l3 gs) (hr : Row2 w (some ⟨tb, toff, none⟩) tl ts) (he : (envB ms fs gs && dryB dm dq) = true) (ht : tanksB ts = true) (hs : inB step 1 10000 = true) (hi : insB ms fs gs (dm + sumM ts ts.length) (dq + sumQ ts ts.length) = true) :
    Calls Try.prog 30 #[.agg #[.slice a1 l1 c1, .slice a2 l2 c2, .slice a3 l3 c3], .agg #[.int .i64 dm, .int .i64 dq], .slice (some ⟨tb, toff, none⟩) tl tc, .int .i64 step] w fun e w' => ∃ a c, e = .returned (.tuple #[.slice a ((orderRes ms fs gs dm dq step ts).1).length c, .bool ((orderRes ms fs gs dm dq step ts).2)]) ∧ Own2 w' w.heap.size 76 (.slice a ((orderRes ms fs gs dm dq step ts).1).length c) ((orderRes ms fs gs dm dq step ts).1) ∧ Below w.heap.size w w' := by
  have hlen := hr.len_eq
  subst hlen
  have hd : dryB dm dq = true := by simp only [Bool.and_eq_true] at he; exact he.2
  have h8 := (tanks_facts ht).1
  have HIT := hide (tanks_facts ht).2
  have HD := hide hd
  have hst := in_facts hs
  have B0 := hide (bel2 (w := w) (.cells #[.slice a1 l1 c1, .slice a2 l2 c2, .slice a3 l3 c3] 27) (.cells #[.int .i64 dm, .int .i64 dq] 34))
  obtain ⟨W, hW⟩ : ∃ W, W = (w.alloc (.cells #[.slice a1 l1 c1, .slice a2 l2 c2, .slice a3 l3 c3] 27)).alloc (.cells #[.int .i64 dm, .int .i64 dq] 34) := ⟨_, rfl⟩
  have x0 : W.cell? ⟨w.heap.size, 0, none⟩ = some (.slice a1 l1 c1) := by rw [hW]; simp [go_sem]
  have x1 : W.cell? ⟨w.heap.size, 1, none⟩ = some (.slice a2 l2 c2) := by rw [hW]; simp [go_sem]
  have x2 : W.cell? ⟨w.heap.size, 2, none⟩ = some (.slice a3 l3 c3) := by rw [hW]; simp [go_sem]
  have y0 : W.cell? ⟨w.heap.size + 1, 0, none⟩ = some (.int .i64 dm) := by rw [hW]; simp [go_sem]
  have y1 : W.cell? ⟨w.heap.size + 1, 1, none⟩ = some (.int .i64 dq) := by rw [hW]; simp [go_sem]
  have sW : W.heap.size = w.heap.size + 1 + 1 := by rw [hW]; simp
  rw [← hW] at B0
  have O0 : Own2 (W.alloc (Obj.cells #[] 76)) (w.heap.size + 1 + 1) 76 (.slice (some ⟨w.heap.size + 1 + 1, 0, none⟩) 0 0) [] := by rw [← sW]; exact own2_none (w := W) (w1 := W) 76 (Nat.le_refl _)
  obtain ⟨ι, f, hne, hbel, hall⟩ := belClass W
  obtain ⟨xw, hxw⟩ := hall _ (bel1 (w := W) (Obj.cells #[] 76))
  rw [hxw] at O0
  have x0 : ∀ x, (f x).cell? ⟨w.heap.size, 0, none⟩ = some (.slice a1 l1 c1) := fun x => ((hbel x).cell (p := ⟨w.heap.size, 0, none⟩) (by simp; omega)).trans x0
  have x1 : ∀ x, (f x).cell? ⟨w.heap.size, 1, none⟩ = some (.slice a2 l2 c2) := fun x => ((hbel x).cell (p := ⟨w.heap.size, 1, none⟩) (by simp; omega)).trans x1
  have x2 : ∀ x, (f x).cell? ⟨w.heap.size, 2, none⟩ = some (.slice a3 l3 c3) := fun x => ((hbel x).cell (p := ⟨w.heap.size, 2, none⟩) (by simp; omega)).trans x2
  have y0 : ∀ x, (f x).cell? ⟨w.heap.size + 1, 0, none⟩ = some (.int .i64 dm) := fun x => ((hbel x).cell (p := ⟨w.heap.size + 1, 0, none⟩) (by simp; omega)).trans y0
  have y1 : ∀ x, (f x).cell? ⟨w.heap.size + 1, 1, none⟩ = some (.int .i64 dq) := fun x => ((hbel x).cell (p := ⟨w.heap.size + 1, 1, none⟩) (by simp; omega)).trans y1
  have HB := hide fun x => (unhide B0).trans ((hbel x).mono (by omega))
  have H1 := hide fun x => h1.below (unhide HB x)
  have H2 := hide fun x => h2.below (unhide HB x)
  have H3 := hide fun x => h3.below (unhide HB x)
  have HR := hide fun x => hr.below (unhide HB x)
  have HL := hide hbel
  have HX := hide hall
  have HZ : Hid (∀ x, w.heap.size + 1 + 1 ≤ (f x).heap.size) := hide fun x => by have := (hbel x).size; omega
  have SW := hide sW
  have OP := hide O0
  clear hbel hall B0 sW h1 h2 h3 hr O0
  go_enter Try.func30, Try.ntmps30
  go_wp2_with fail
  rw [← hW, hxw]
  clear hW hxw
  refine (l2Dry_is _ _ _ _ _ _ _ _ _ ms fs gs dm dq _ he (unhide H1 xw) (unhide H2 xw) (unhide H3 xw)).mono ?_
  rintro e w1 ⟨rfl, b1⟩
  obtain ⟨xv, rfl⟩ := unhide HX _ ((unhide HL xw).trans (b1.mono (unhide HL xw).size))
  have OP := hide ((unhide OP).below b1)
  clear b1
  go_wp2_with fail
  refine (l2Tanks_is _ _ _ ts _ ht (unhide HR xv)).mono ?_
  rintro e w' ⟨rfl, hw⟩
  subst w'
  go_wp2_with fail
  refine (l1In_is _ _ _ _ hs).mono ?_
  rintro e w' ⟨rfl, hw⟩
  subst w'
  have hzt := unhide HZ xv
  have LQ : Hid (w.heap.size + 1 + 1 < (f xv).heap.size) := hide ((unhide OP).lies2 _ rfl).2
  have HF := hide (unhide HR xv).fit
  have HCC := hide (flat_cells ((unhide HR xv).alloc (Obj.cells #[] 78)))
  obtain ⟨i0, hii, hz0, hz1, hz2⟩ := info_parts infoTank
  go_wp2_with (at_builtin; refine wpList_append_own _ rfl _ _ 41 rfl (f xv).heap.size 78 i0 (.agg #[.int .i64 0, .int .i64 0]) 2 16 Try.underlying41 hii hz0 hz1 hz2 rfl (by decide) (.slice (some ⟨(f xv).heap.size, 0, none⟩) 0 0) 0 [] rfl (owns_none (f xv) _) ⟨tb, toff, none⟩ ts.length tc (flat ts) rfl (flat_len ts) (unhide HCC) (flat_one ts) (by unfold maxLen; omega) (by omega) (by simp) ?_; intro v1 w2 hown hgrow hnil; rw [Nat.zero_add, List.nil_append] at hown; obtain ⟨la, lc, hv, _, _⟩ := (own2_flat hown (unhide HF)).slice; subst hv; have oL := own2_flat hown (unhide HF); have b4 := (bel1 (w := f xv) (Obj.cells #[] 78)).grown hgrow (by simp) (fun k hk => by simp [Value.ownBlock] at hk; omega); clear hown hgrow hnil)
  have OL := hide (oL.mono (base' := w.heap.size + 1 + 1) hzt)
  have LL := hide oL.lies2
  obtain ⟨xs, rfl⟩ := unhide HX _ ((unhide HL xv).trans (b4.mono (unhide HL xv).size))
  have OP := hide ((unhide OP).below b4)
  clear b4
  clear hii hz0 hz1 hz2 oL HCC HF
  have DP : Hid (∀ g, (Value.slice (some ⟨w.heap.size + 1 + 1, 0, none⟩) 0 0).ownBlock = some g → (Value.slice la ts.length lc).ownBlock ≠ some g) := hide fun g hg => by
    simp only [Value.ownBlock, Option.some.injEq] at hg
    subst hg
    intro e
    have h2 := unhide LL _ e
    have h3 := unhide LQ
    omega
  have fd := dry_facts (unhide HD)
  obtain ⟨κ, g, hne2, hb2, hall2⟩ := belClass (f xs)
  have hgf : ∀ y, ∃ z, g y = f z := fun y => unhide HX _ ((unhide HL xs).trans ((hb2 y).mono (unhide HL xs).size))
  have g0 : ∀ y, (g y).cell? ⟨w.heap.size, 0, none⟩ = some (.slice a1 l1 c1) := fun y => by obtain ⟨z, hz⟩ := hgf y; rw [hz]; exact x0 z
  have g1 : ∀ y, (g y).cell? ⟨w.heap.size, 1, none⟩ = some (.slice a2 l2 c2) := fun y => by obtain ⟨z, hz⟩ := hgf y; rw [hz]; exact x1 z
  have g2 : ∀ y, (g y).cell? ⟨w.heap.size, 2, none⟩ = some (.slice a3 l3 c3) := fun y => by obtain ⟨z, hz⟩ := hgf y; rw [hz]; exact x2 z
  have g3 : ∀ y, (g y).cell? ⟨w.heap.size + 1, 0, none⟩ = some (.int .i64 dm) := fun y => by obtain ⟨z, hz⟩ := hgf y; rw [hz]; exact y0 z
  have g4 : ∀ y, (g y).cell? ⟨w.heap.size + 1, 1, none⟩ = some (.int .i64 dq) := fun y => by obtain ⟨z, hz⟩ := hgf y; rw [hz]; exact y1 z
  have G1 := hide fun y => show Row (g y) a1 l1 ms by obtain ⟨z, hz⟩ := hgf y; rw [hz]; exact unhide H1 z
  have G2 := hide fun y => show Row (g y) a2 l2 fs by obtain ⟨z, hz⟩ := hgf y; rw [hz]; exact unhide H2 z
  have G3 := hide fun y => show Row (g y) a3 l3 gs by obtain ⟨z, hz⟩ := hgf y; rw [hz]; exact unhide H3 z
  have LW := hide fun y => l2With_any dm dq la ts.length lc ts (g y) ((unhide OL).below (hb2 y)).row h8 (unhide HIT) fd.1 fd.2
  have GL := hide hb2
  have GX := hide hall2
  have HG := hide hgf
  clear hb2 hall2 hgf fd
  go_wp2_with fail
  refine wp_region_bel (unhide GX) (by kernel_rfl) (by kernel_rfl) ?_
  repeat (go_big_quiet_step (first
    | (go_at_call 59; exact belQ (unhide GL) (unhide GX) (unhide LW _))
    | (go_at_call 14; exact belQ (unhide GL) (unhide GX) (specInside_is _ _ _ _ _ _ _ _ _ ms fs gs _ _ _ hi (unhide G1 _) (unhide G2 _) (unhide G3 _)))))
  refine wpQuiet_nil ?_
  rintro _ ⟨y, rfl⟩
  have OP := hide ((unhide OP).below (unhide GL y))
  have OL := hide ((unhide OL).below (unhide GL y))
  obtain ⟨xp, hxp⟩ := unhide HG y
  rw [hxp] at OP OL ⊢
  clear hxp G1 G2 G3 LW GL GX HG g0 g1 g2 g3 g4 hne2
  have HRR := hide (order_run (step := step) (show orderOk ms fs gs dm dq step ts = true from by rw [Bool.and_eq_true] at he; simp [orderOk, he.1, he.2, ht, hs]) hi)
  clear hi he hd hs
  go_wp2_with fail
  go_loopw [10] (fun p wr => Hid (∃ (T P : List (Int × Int)) (a : Option Addr) (c n : Nat) (x : ι), p = .slice a P.length c ∧ wr = f x ∧ Own2 wr (w.heap.size + 1 + 1) 76 (.slice a P.length c) P ∧ Own2 wr (w.heap.size + 1 + 1) 78 (.slice la ts.length lc) T ∧ Hid (∀ g, (Value.slice a P.length c).ownBlock = some g → (Value.slice la ts.length lc).ownBlock ≠ some g) ∧ n + P.length = 60 ∧ Hid (T.length = ts.length) ∧ Hid (∀ j, j < T.length → itemB (fstAt T j) (sndAt T j) = true) ∧ Hid (orderRes ms fs gs dm dq step ts = orderR ms fs gs dm dq step n T P))) (fun p _ => 60 - sliceLen p)
  case atStart => exact hide ⟨ts, [], _, _, 60, xp, rfl, rfl, unhide OP, unhide OL, unhide DP, rfl, rfl, unhide HIT, unhide HRR⟩
  case round =>
    clear OP OL DP HRR
    obtain ⟨T, P, a, c, n, x, rfl, hwr, hP, hL, hD, hn, hT, hit, hR⟩ := unhide hrel
    subst wr
    have hT8 : T.length ≤ 8 := by have := unhide hT; omega
    have BD := hide (fuel_bd hT8 (unhide HD) (unhide hit))
    have hTl : T.length ≤ ts.length := by have := unhide hT; omega
    have hTg : ts.length ≤ T.length := by have := unhide hT; omega
    have OP := hide hP
    have OL := hide hL
    have ROL := hide hL.row.open_
    clear hP hL
    go_wp2_with fail
    go_loopw [12, 14] (fun left i wr => ∃ j : Nat, j ≤ T.length ∧ i = .int .i64 j ∧ left = .int .i64 (sumM T j) ∧ wr = f x) (fun _ i _ => T.length - (intOf i).toNat)
    case atStart => exact ⟨0, Nat.zero_le _, rfl, rfl, rfl⟩
    case round =>
      obtain ⟨j, hj, rfl, rfl, hwr⟩ := hrel
      subst wr
      by_cases hlt : j < T.length
      · rcases unhide ROL with ⟨h0, _⟩ | ⟨bb, off, rfl, _, hc⟩
        · omega
        obtain ⟨ca, _⟩ := hc j (by omega)
        have bd := sum_bd (ps := T) j (fun i hi => unhide hit i (by omega))
        have fct := item_facts (unhide hit j hlt)
        have hi1 : (j : Int) < (ts.length : Int) := by omega
        clear hc
        go_wp2
        go_roundw
        case rel => exact ⟨j + 1, by omega, by go_num, by rw [sumM_succ], by first | rfl | trivial⟩
        case measure => simp [intOf]; omega
      · have hjj : j = T.length := by omega
        subst hjj
        have hi1 : ¬ (T.length : Int) < (ts.length : Int) := by omega
        by_cases hz : sumM T T.length = 0
        · have HE := hide ((unhide hR).trans (orderR_empty hz))
          go_wp2
          go_ret2
          refine ⟨a, c, ?_, ?_, unhide HB x⟩
          · exact (show Ending.returned (.tuple #[.slice a P.length c, .bool true]) = _ from by rw [unhide HE])
          · rw [unhide HE]; exact (unhide OP).mono (by omega)
        · have HZ0 := hide hz
          go_wp2_with fail
          go_loopw [10, 13, 15] (fun p d i wr => Hid (∃ (j : Nat) (x' : ι), j ≤ T.length ∧ i = .int .i64 j ∧ wr = f x' ∧
            ((d = .bool false ∧ p = .slice a P.length c ∧ Own2 wr (w.heap.size + 1 + 1) 76 (.slice a P.length c) P ∧ Own2 wr (w.heap.size + 1 + 1) 78 (.slice la ts.length lc) T ∧ Hid (∀ i, i < j → candB ms fs gs dm dq step T i = false)) ∨
             (d = .bool true ∧ ∃ (k g' cap' : Nat), p = .slice (some ⟨g', 0, none⟩) (P.length + 1) cap' ∧ Own2 wr (w.heap.size + 1 + 1) 76 (.slice (some ⟨g', 0, none⟩) (P.length + 1) cap') (P ++ [((k : Int), manyAt step T k)]) ∧ Own2 wr (w.heap.size + 1 + 1) 78 (.slice la ts.length lc) (take1 T k (manyAt step T k)) ∧ Hid ((Value.slice la ts.length lc).ownBlock ≠ some g') ∧ Hid (nextK ms fs gs dm dq step T = some k) ∧ k < T.length ∧ 0 < manyAt step T k ∧ P.length ≤ 59)))) (fun _ _ i _ => T.length - (intOf i).toNat)
          case atStart => exact hide ⟨0, x, Nat.zero_le _, rfl, rfl, .inl ⟨rfl, rfl, unhide OP, unhide OL, fun i hi => by omega⟩⟩
          case round =>
            obtain ⟨j, x', hj, rfl, hwr, hcase⟩ := unhide hrel
            subst wr
            rcases hcase with ⟨rfl, rfl, oP, oL, hno⟩ | ⟨rfl, k, g', cap', rfl, oP, oL, hDD, hnk, hkT, hpos, h59⟩
            · by_cases hlt : j < T.length
              · have hc1 : (j : Int) < (ts.length : Int) := by omega
                by_cases hfull : n = 0
                · subst hfull
                  have HE := hide ((unhide hR).trans (orderR_full (unhide HZ0)))
                  have hlp : ¬ (P.length : Int) < 60 := by omega
                  have OPX := hide oP
                  clear oP oL
                  go_wp2
                  go_ret2
                  refine ⟨a, c, ?_, ?_, unhide HB x'⟩
                  · exact (show Ending.returned (.tuple #[.slice a P.length c, .bool false]) = _ from by rw [unhide HE])
                  · rw [unhide HE]; exact (unhide OPX).mono (by omega)
                · have hlp : (P.length : Int) < 60 := by omega
                  rcases oL.form with ⟨_, h0⟩ | ⟨gl, lc', hv, hg1, hg2, hc2, _⟩
                  · rw [h0] at hlt; simp at hlt
                  simp only [Value.slice.injEq] at hv
                  obtain ⟨rfl, hx, rfl⟩ := hv
                  clear hx hc2
                  have o1 := oL
                  rw [← unhide hT] at o1
                  obtain ⟨⟨n0, _⟩, z0, _⟩ := o1.here j hlt
                  have fct := item_facts (unhide hit j hlt)
                  obtain ⟨N, hN⟩ : ∃ N, min step (fstAt T j) = N := ⟨_, rfl⟩
                  have HN : Hid (manyAt step T j = N) := hide hN
                  have hN0 : 0 ≤ N := by omega
                  have hN1 : N ≤ fstAt T j := by omega
                  have hN2 : N ≤ 10000 := by omega
                  have HNN := hide hN
                  have OPX := hide oP
                  have OLX := hide oL
                  clear oP oL hN
                  by_cases hz0 : N = 0
                  · have HNO : Hid (candB ms fs gs dm dq step T j = false) := hide (by unfold candB; rw [unhide HN, hz0]; simp)
                    clear o1
                    subst hz0
                    go_wp2_with (go_at_call 63; refine (l1Min_is _ _ _ (unhide HNN)).mono ?_; rintro e w' ⟨rfl, hw⟩; subst w')
                    go_roundw
                    case rel => exact hide ⟨j + 1, x', by omega, by go_num, by first | rfl | trivial, .inl ⟨rfl, rfl, unhide OPX, unhide OLX, fun i hi => by rcases Nat.lt_succ_iff_lt_or_eq.1 hi with h | h; exact hno.out i h; subst h; exact unhide HNO⟩⟩
                    case measure => simp [intOf]; omega
                  · have hpos : 0 < N := by omega
                    have hbz : (N == 0) = false := by simp [hz0]
                    have hwr : IntKind.i64.wrap (fstAt T j - N) = fstAt T j - N := by rw [IntKind.wrap_i64]; omega
                    have HTS : Hid (take1 T j N = T.set j (fstAt T j - N, sndAt T j)) := hide (by unfold take1; rw [Int.toNat_natCast])
                    have hcan : canB T j N = true := by have := many_can hlt hst (by rw [unhide HN]; exact hpos); rwa [unhide HN] at this
                    have HTI := hide (take1_items hcan (unhide hit))
                    have s0 := o1.setFst j hlt (fstAt T j - N) (by omega)
                    rw [← unhide HTS, unhide hT] at s0
                    have OL1 := hide s0
                    have OP1 := hide ((unhide OPX).set_other (S := gl) (o := j * 2) (.int .i64 (fstAt T j - N)) (fun e => (unhide hD gl e) rfl))
                    have hgW : W.heap.size ≤ gl := by have := unhide SW; omega
                    have bV := (unhide HL x').setCell (p := ⟨gl, j * 2, none⟩) hgW (.int .i64 (fstAt T j - N))
                    obtain ⟨xz, hx2⟩ := unhide HX _ bV
                    have HX2 := hide hx2
                    clear o1 s0 bV hx2 OPX OLX hcan
                    go_wp2_with (go_at_call 63; refine (l1Min_is _ _ _ (unhide HNN)).mono ?_; rintro e w' ⟨rfl, hw⟩; subst w')
                    rw [unhide HX2] at OL1 OP1 ⊢
                    clear n0 z0 HX2
                    have fd := dry_facts (unhide HD)
                    have hlenT : (take1 T j N).length = T.length := take1_len T j N
                    obtain ⟨κ, g, hne2, hb2, hall2⟩ := belClass (f xz)
                    have hgf : ∀ y, ∃ z, g y = f z := fun y => unhide HX _ ((unhide HL xz).trans ((hb2 y).mono (unhide HL xz).size))
                    have g0 : ∀ y, (g y).cell? ⟨w.heap.size, 0, none⟩ = some (.slice a1 l1 c1) := fun y => by obtain ⟨z, hz⟩ := hgf y; rw [hz]; exact x0 z
                    have g1 : ∀ y, (g y).cell? ⟨w.heap.size, 1, none⟩ = some (.slice a2 l2 c2) := fun y => by obtain ⟨z, hz⟩ := hgf y; rw [hz]; exact x1 z
                    have g2 : ∀ y, (g y).cell? ⟨w.heap.size, 2, none⟩ = some (.slice a3 l3 c3) := fun y => by obtain ⟨z, hz⟩ := hgf y; rw [hz]; exact x2 z
                    have g3 : ∀ y, (g y).cell? ⟨w.heap.size + 1, 0, none⟩ = some (.int .i64 dm) := fun y => by obtain ⟨z, hz⟩ := hgf y; rw [hz]; exact y0 z
                    have g4 : ∀ y, (g y).cell? ⟨w.heap.size + 1, 1, none⟩ = some (.int .i64 dq) := fun y => by obtain ⟨z, hz⟩ := hgf y; rw [hz]; exact y1 z
                    have G1 := hide fun y => show Row (g y) a1 l1 ms by obtain ⟨z, hz⟩ := hgf y; rw [hz]; exact unhide H1 z
                    have G2 := hide fun y => show Row (g y) a2 l2 fs by obtain ⟨z, hz⟩ := hgf y; rw [hz]; exact unhide H2 z
                    have G3 := hide fun y => show Row (g y) a3 l3 gs by obtain ⟨z, hz⟩ := hgf y; rw [hz]; exact unhide H3 z
                    have LW := hide fun y => l2With_any dm dq (some ⟨gl, 0, none⟩) ts.length lc (take1 T j N) (g y) ((unhide OL1).below (hb2 y)).row h8 (unhide HTI) fd.1 fd.2
                    have GL := hide hb2
                    have GX := hide hall2
                    have HG := hide hgf
                    have HCD : Hid (candB ms fs gs dm dq step T j = insB ms fs gs (dm + sumM (take1 T j N) (take1 T j N).length) (dq + sumQ (take1 T j N) (take1 T j N).length)) := hide (by unfold candB; rw [unhide HN, hlenT]; simp [hpos])
                    have HLT := hide hlenT
                    clear hb2 hall2 hgf fd hlenT
                    cases hin : insB ms fs gs (dm + sumM (take1 T j N) (take1 T j N).length) (dq + sumQ (take1 T j N) (take1 T j N).length)
                    · have HNO := hide ((unhide HCD).trans hin)
                      refine wp_region_bel (unhide GX) (by kernel_rfl) (by kernel_rfl) ?_
                      repeat (go_big_quiet_step (first
                        | (go_at_call 59; exact belQ (unhide GL) (unhide GX) (unhide LW _))
                        | (go_at_call 14; exact belQ (unhide GL) (unhide GX) (specInside_is _ _ _ _ _ _ _ _ _ ms fs gs _ _ _ hin (unhide G1 _) (unhide G2 _) (unhide G3 _)))))
                      refine wpQuiet_nil ?_
                      rintro _ ⟨y, rfl⟩
                      have OP2 := hide ((unhide OP1).below (unhide GL y))
                      have oL2 := (unhide OL1).below (unhide GL y)
                      obtain ⟨x3, hx3⟩ := unhide HG y
                      rw [hx3] at OP2 oL2 ⊢
                      have o2 := oL2
                      rw [← unhide hT, ← unhide HLT] at o2
                      have hlt2 : j < (take1 T j N).length := by rw [unhide HLT]; exact hlt
                      obtain ⟨⟨n0, _⟩, z0, _⟩ := o2.here j hlt2
                      have ef : fstAt (take1 T j N) j = fstAt T j - N := by rw [unhide HTS, fstAt_set _ _ _ _ _ hlt]; simp
                      rw [ef] at n0
                      have s2 := o2.setFst j hlt2 (fstAt T j) (by omega)
                      have eb : (take1 T j N).set j (fstAt T j, sndAt (take1 T j N) j) = T := by rw [take1_snd]; exact set_back N hlt
                      rw [eb, unhide HLT, unhide hT] at s2
                      have OL3 := hide s2
                      have OP3 := hide ((unhide OP2).set_other (S := gl) (o := j * 2) (.int .i64 (fstAt T j)) (fun e => (unhide hD gl e) rfl))
                      obtain ⟨x4, hx4⟩ := unhide HX _ ((unhide HL x3).setCell (p := ⟨gl, j * 2, none⟩) hgW (.int .i64 (fstAt T j)))
                      have HX4 := hide hx4
                      have hwr2 : IntKind.i64.wrap (fstAt T j - N + N) = fstAt T j - N + N := by rw [IntKind.wrap_i64]; omega
                      clear hx3 hx4 o2 oL2 s2 eb ef hin OP2 hwr
                      go_wp2_with fail
                      rw [unhide HX4] at OL3 OP3 ⊢
                      go_roundw
                      case rel => exact hide ⟨j + 1, x4, by omega, by go_num, rfl, .inl ⟨rfl, rfl, unhide OP3, unhide OL3, fun i hi => by rcases Nat.lt_succ_iff_lt_or_eq.1 hi with h | h; exact hno.out i h; subst h; exact unhide HNO⟩⟩
                      case measure => simp [intOf]; omega
                    · have HNK := hide (nextK_some hlt ((unhide HCD).trans hin) hno.out)
                      refine wp_region_bel (unhide GX) (by kernel_rfl) (by kernel_rfl) ?_
                      repeat (go_big_quiet_step (first
                        | (go_at_call 59; exact belQ (unhide GL) (unhide GX) (unhide LW _))
                        | (go_at_call 14; exact belQ (unhide GL) (unhide GX) (specInside_is _ _ _ _ _ _ _ _ _ ms fs gs _ _ _ hin (unhide G1 _) (unhide G2 _) (unhide G3 _)))))
                      refine wpQuiet_nil ?_
                      rintro _ ⟨y, rfl⟩
                      have OP2 := hide ((unhide OP1).below (unhide GL y))
                      have OL2 := hide ((unhide OL1).below (unhide GL y))
                      obtain ⟨xm, hxm⟩ := unhide HG y
                      rw [hxm] at OP2 OL2 ⊢
                      obtain ⟨vs, hown, hvx⟩ := (unhide OP2).own
                      have hbA := bel1 (w := f xm) (Obj.cells #[Value.int IntKind.i64 j, Value.int IntKind.i64 N] 76)
                      have hownA := ownsRow_below hown hbA
                      have hnews := World.news_of_block (heap_alloc_new (f xm) (Obj.cells #[Value.int IntKind.i64 j, Value.int IntKind.i64 N] 76))
                      have HVX := hide hvx
                      have HVL := hide hown.1
                      obtain ⟨i0, hii, hz0', hz1, hz2⟩ := info_parts infoBurnT
                      have h59 : P.length ≤ 59 := by omega
                      clear hown hvx hxm hin
                      go_wp2_with (at_builtin; refine wpList_append_lies _ rfl _ _ 45 rfl (w.heap.size + 1 + 1) 76 i0 (.agg #[.int .i64 0, .int .i64 0]) 2 16 Try.underlying45 hii hz0' hz1 hz2 rfl (by decide) (.slice a P.length c) P.length vs rfl hownA ⟨(f xm).heap.size, 0, none⟩ 1 1 [.int .i64 j, .int .i64 N] rfl rfl hnews (by simp [Value.oneCell']) (by decide) (by unfold maxLen; omega) (by omega) (by have := unhide HZ xm; simp; omega) _ rfl ?_; intro g' cap' w9 hown9 hgrow hat hlt9)
                      have hrow : ∀ j, (Value.slice a P.length c).ownBlock = some j → w.heap.size + 1 + 1 ≤ j := fun j hj => ((unhide OP2).lies2 j hj).1
                      have hb9 : Below W.heap.size W w9 := ((unhide HL xm).trans (hbA.mono (unhide HL xm).size)).grown hgrow (by have := (unhide HL xm).size; simp; omega) (fun j hj => by have := hrow j hj; have := unhide SW; omega)
                      obtain ⟨xl, hxl⟩ := unhide HX _ hb9
                      have hgl9 : gl < (f xm).heap.size := ((unhide OL2).lies2 gl rfl).2
                      refine ⟨hide ⟨j + 1, xl, by omega, by go_num, hxl, .inr ⟨rfl, j, g', cap', rfl, ?_, ?_, ?_, unhide HNK, hlt, by rw [unhide HN]; exact hpos, h59⟩⟩, by simp [intOf]; omega⟩
                      · rw [unhide HN]; exact own2_app hown9 (unhide HVL) (unhide HVX) (unhide OP2).fit (by omega) (by omega)
                      · rw [unhide HN]
                        exact ((unhide OL2).below hbA).far hgrow (fun i hi e => by
                          simp only [Value.ownBlock, Option.some.injEq] at hi
                          subst hi
                          exact (unhide hD _ e.symm) rfl)
                      · refine hide ?_
                        rcases hat with e | e
                        · exact unhide hD _ e
                        · have hsz9 : ((f xm).alloc (Obj.cells #[Value.int IntKind.i64 j, Value.int IntKind.i64 N] 76)).heap.size = (f xm).heap.size + 1 := by simp
                          rw [hsz9] at e
                          simp only [Value.ownBlock, ne_eq, Option.some.injEq]
                          omega
              · have hjj : j = T.length := by omega
                subst hjj
                have hc1 : ¬ (T.length : Int) < (ts.length : Int) := by omega
                have HE := hide ((unhide hR).trans (orderR_none (unhide HZ0) (nextK_none fun i hi => hno.out i hi)))
                have OPX := hide oP
                clear oP oL
                go_wp2
                go_ret2
                refine ⟨a, c, ?_, ?_, unhide HB x'⟩
                · exact (show Ending.returned (.tuple #[.slice a P.length c, .bool false]) = _ from by rw [unhide HE])
                · rw [unhide HE]; exact (unhide OPX).mono (by omega)
            · obtain ⟨n', rfl⟩ : ∃ n', n = n' + 1 := ⟨n - 1, by omega⟩
              have hcan := many_can hkT hst hpos
              have HTI := hide (take1_items hcan (unhide hit))
              have HOR := hide ((unhide hR).trans (orderR_some (unhide HZ0) (unhide hnk)))
              have hlenP : (P ++ [((k : Int), manyAt step T k)]).length = P.length + 1 := by simp
              have HLP := hide hlenP
              have OPX := hide oP
              have OLX := hide oL
              clear oP oL hcan hlenP
              by_cases hltj : j < T.length
              · have hc1 : (j : Int) < (ts.length : Int) := by omega
                go_wp2_with fail
                go_roundw
                case rel => exact hide ⟨take1 T k (manyAt step T k), P ++ [((k : Int), manyAt step T k)], some ⟨g', 0, none⟩, cap', n', x', by rw [unhide HLP], rfl, by rw [unhide HLP]; exact unhide OPX, unhide OLX, hide (fun i hi => by simp only [Value.ownBlock, Option.some.injEq] at hi; subst hi; exact unhide hDD), by rw [unhide HLP]; omega, hide (by rw [take1_len]; exact unhide hT), unhide HTI, unhide HOR⟩
                case measure => simp [sliceLen]; omega
              · have hc1 : ¬ (j : Int) < (ts.length : Int) := by omega
                go_wp2_with fail
                go_roundw
                case rel => exact hide ⟨take1 T k (manyAt step T k), P ++ [((k : Int), manyAt step T k)], some ⟨g', 0, none⟩, cap', n', x', by rw [unhide HLP], rfl, by rw [unhide HLP]; exact unhide OPX, unhide OLX, hide (fun i hi => by simp only [Value.ownBlock, Option.some.injEq] at hi; subst hi; exact unhide hDD), by rw [unhide HLP]; omega, hide (by rw [take1_len]; exact unhide hT), unhide HTI, unhide HOR⟩
                case measure => simp [sliceLen]; omega
theorem specOrder_any (a1 a2 a3 : Option Addr) (l1 c1 l2 c2 l3 c3 : Nat) (ms fs gs : List Int) (dm dq step : Int) (tb toff tl tc : Nat) (ts : List (Int × Int)) (w : World) (h1 : Row w a1 l1 ms) (h2 : Row w a2 l2 fs) (h3 : Row w a3 l3 gs) (hr : Row2 w (some ⟨tb, toff, none⟩) tl ts) :
    Calls Try.prog 30 #[.agg #[.slice a1 l1 c1, .slice a2 l2 c2, .slice a3 l3 c3], .agg #[.int .i64 dm, .int .i64 dq], .slice (some ⟨tb, toff, none⟩) tl tc, .int .i64 step] w fun e w' => ∃ a c, e = .returned (.tuple #[.slice a ((orderRes ms fs gs dm dq step ts).1).length c, .bool ((orderRes ms fs gs dm dq step ts).2)]) ∧ Own2 w' w.heap.size 76 (.slice a ((orderRes ms fs gs dm dq step ts).1).length c) ((orderRes ms fs gs dm dq step ts).1) ∧ Below w.heap.size w w' := by
  cases he : (envB ms fs gs && dryB dm dq)
  · rw [order_bad (by simp only [orderOk, he, Bool.false_and])]; exact specOrder_dry a1 a2 a3 l1 c1 l2 c2 l3 c3 ms fs gs dm dq step tb toff tl tc ts w h1 h2 h3 hr he
  cases ht : tanksB ts
  · rw [order_bad (by simp [orderOk, ht])]; exact specOrder_tan a1 a2 a3 l1 c1 l2 c2 l3 c3 ms fs gs dm dq step tb toff tl tc ts w h1 h2 h3 hr he ht
  cases hs : inB step 1 10000
  · rw [order_bad (by simp [orderOk, hs])]; exact specOrder_stp a1 a2 a3 l1 c1 l2 c2 l3 c3 ms fs gs dm dq step tb toff tl tc ts w h1 h2 h3 hr he ht hs
  cases hi : insB ms fs gs (dm + sumM ts ts.length) (dq + sumQ ts ts.length)
  · rw [order_out hi]; exact specOrder_out a1 a2 a3 l1 c1 l2 c2 l3 c3 ms fs gs dm dq step tb toff tl tc ts w h1 h2 h3 hr he ht hs hi
  · exact specOrder_run a1 a2 a3 l1 c1 l2 c2 l3 c3 ms fs gs dm dq step tb toff tl tc ts w h1 h2 h3 hr he ht hs hi

end Go.Proofs.Ytbaocifpifbldaj
