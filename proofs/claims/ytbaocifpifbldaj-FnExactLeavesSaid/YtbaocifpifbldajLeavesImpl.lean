/-
  What Leaves answers in the program: the plain place, at every envelope, dry sum, tanks and plan; nothing that was there is written.
-/
import Derived.Test.YtbaocifpifbldajLeavesPure
import Derived.Test.YtbaocifpifbldajFuelImpl
import Derived.Test.YtbaocifpifbldajInsImpl2
import Derived.Test.YtbaocifpifbldajBurntImpl
namespace Go.Proofs.Ytbaocifpifbldaj
open Go.RowKit

theorem implInside_is {c : Bool} (a1 a2 a3 : Option Addr) (l1 c1 l2 c2 l3 c3 : Nat) (ms fs gs : List Int) (m q : Int) (w : World) (hc : insB ms fs gs m q = c) (h1 : Row w a1 l1 ms) (h2 : Row w a2 l2 fs) (h3 : Row w a3 l3 gs) (hcap1 : l1 ≤ c1) (hcap2 : l2 ≤ c2) (hcap3 : l3 ≤ c3) :
    Calls Try.prog 16 #[.agg #[.slice a1 l1 c1, .slice a2 l2 c2, .slice a3 l3 c3], .agg #[.int .i64 m, .int .i64 q]] w fun e w' => e = .returned (.bool c) ∧ Below w.heap.size w w' := by
  subst hc; exact implInside_any a1 a2 a3 l1 c1 l2 c2 l3 c3 ms fs gs m q w h1 h2 h3 hcap1 hcap2 hcap3

set_option maxHeartbeats 2000000 in
theorem implLeaves_env (a1 a2 a3 : Option Addr) (l1 c1 l2 c2 l3 c3 : Nat) (ms fs gs : List Int) (dm dq : Int) (tb toff tl tc : Nat) (ba : Option Addr) (pl pc : Nat) (ts bs : List (Int × Int)) (w : World) (h1 : Row w a1 l1 ms) (h2 : Row w a2 l2 fs) (h3 : Row w a3 l3 gs) (_hcap1 : l1 ≤ c1) (_hcap2 : l2 ≤ c2) (_hcap3 : l3 ≤ c3) (hr : Row2 w (some ⟨tb, toff, none⟩) tl ts) (hb : Row2 w ba pl bs) (he : envB ms fs gs = false) :
    Calls Try.prog 29 #[.agg #[.slice a1 l1 c1, .slice a2 l2 c2, .slice a3 l3 c3], .agg #[.int .i64 dm, .int .i64 dq], .slice (some ⟨tb, toff, none⟩) tl tc, .slice ba pl pc] w fun e w' => e = .returned (.int .i64 (-2)) ∧ Below w.heap.size w w' := by
  have B0 := hide (bel2 (w := w) (.cells #[.slice a1 l1 c1, .slice a2 l2 c2, .slice a3 l3 c3] 27) (.cells #[.int .i64 dm, .int .i64 dq] 34))
  have H1 := hide (h1.below (unhide B0))
  have H2 := hide (h2.below (unhide B0))
  have H3 := hide (h3.below (unhide B0))
  have HR := hide (hr.below (unhide B0))
  have HP := hide (hb.below (unhide B0))
  clear h1 h2 h3 hr hb
  obtain ⟨W, hW⟩ : ∃ W, W = (w.alloc (.cells #[.slice a1 l1 c1, .slice a2 l2 c2, .slice a3 l3 c3] 27)).alloc (.cells #[.int .i64 dm, .int .i64 dq] 34) := ⟨_, rfl⟩
  have x0 : W.cell? ⟨w.heap.size, 0, none⟩ = some (.slice a1 l1 c1) := by rw [hW]; simp [go_sem]
  have x1 : W.cell? ⟨w.heap.size, 1, none⟩ = some (.slice a2 l2 c2) := by rw [hW]; simp [go_sem]
  have x2 : W.cell? ⟨w.heap.size, 2, none⟩ = some (.slice a3 l3 c3) := by rw [hW]; simp [go_sem]
  have y0 : W.cell? ⟨w.heap.size + 1, 0, none⟩ = some (.int .i64 dm) := by rw [hW]; simp [go_sem]
  have y1 : W.cell? ⟨w.heap.size + 1, 1, none⟩ = some (.int .i64 dq) := by rw [hW]; simp [go_sem]
  have sW : W.heap.size = w.heap.size + 2 := by rw [hW]; simp
  rw [← hW] at B0 H1 H2 H3 HR HP
  obtain ⟨ι, f, hne, hbel, hall⟩ := belClass W
  have hW0 : ∃ x, W = f x := hall W (Below.refl _ _)
  have x0 : ∀ x, (f x).cell? ⟨w.heap.size, 0, none⟩ = some (.slice a1 l1 c1) := fun x => ((hbel x).cell (p := ⟨w.heap.size, 0, none⟩) (by simp; omega)).trans x0
  have x1 : ∀ x, (f x).cell? ⟨w.heap.size, 1, none⟩ = some (.slice a2 l2 c2) := fun x => ((hbel x).cell (p := ⟨w.heap.size, 1, none⟩) (by simp; omega)).trans x1
  have x2 : ∀ x, (f x).cell? ⟨w.heap.size, 2, none⟩ = some (.slice a3 l3 c3) := fun x => ((hbel x).cell (p := ⟨w.heap.size, 2, none⟩) (by simp; omega)).trans x2
  have y0 : ∀ x, (f x).cell? ⟨w.heap.size + 1, 0, none⟩ = some (.int .i64 dm) := fun x => ((hbel x).cell (p := ⟨w.heap.size + 1, 0, none⟩) (by simp; omega)).trans y0
  have y1 : ∀ x, (f x).cell? ⟨w.heap.size + 1, 1, none⟩ = some (.int .i64 dq) := fun x => ((hbel x).cell (p := ⟨w.heap.size + 1, 1, none⟩) (by simp; omega)).trans y1
  have H1 := hide fun x => (unhide H1).below (hbel x)
  have H2 := hide fun x => (unhide H2).below (hbel x)
  have H3 := hide fun x => (unhide H3).below (hbel x)
  have HR := hide fun x => (unhide HR).below (hbel x)
  have HP := hide fun x => (unhide HP).below (hbel x)
  have HB := hide fun x => (unhide B0).trans ((hbel x).mono (by omega))
  have HL := hide hbel
  have HX := hide hall
  have HZ : Hid (∀ x, w.heap.size + 2 ≤ (f x).heap.size) := hide fun x => by have := (hbel x).size; omega
  clear hbel hall B0 sW
  go_enter Try.func29, Try.ntmps29
  go_wp2_with fail
  rw [← hW]
  clear hW
  obtain ⟨xw, hxw⟩ := hW0
  rw [hxw]
  clear hxw
  refine (implEnvelopeOk_is _ _ _ _ _ _ _ _ _ ms fs gs _ he (unhide H1 xw) (unhide H2 xw) (unhide H3 xw)).mono ?_
  rintro e w1 ⟨rfl, b1⟩
  obtain ⟨xv, rfl⟩ := unhide HX _ ((unhide HL xw).trans (b1.mono (unhide HL xw).size))
  clear b1
  go_wp2_with fail
  go_ret
  exact ⟨rfl, unhide HB xv⟩

set_option maxHeartbeats 2000000 in
theorem implLeaves_dry (a1 a2 a3 : Option Addr) (l1 c1 l2 c2 l3 c3 : Nat) (ms fs gs : List Int) (dm dq : Int) (tb toff tl tc : Nat) (ba : Option Addr) (pl pc : Nat) (ts bs : List (Int × Int)) (w : World) (h1 : Row w a1 l1 ms) (h2 : Row w a2 l2 fs) (h3 : Row w a3 l3 gs) (_hcap1 : l1 ≤ c1) (_hcap2 : l2 ≤ c2) (_hcap3 : l3 ≤ c3) (hr : Row2 w (some ⟨tb, toff, none⟩) tl ts) (hb : Row2 w ba pl bs) (he : envB ms fs gs = true) (hd : dryB dm dq = false) :
    Calls Try.prog 29 #[.agg #[.slice a1 l1 c1, .slice a2 l2 c2, .slice a3 l3 c3], .agg #[.int .i64 dm, .int .i64 dq], .slice (some ⟨tb, toff, none⟩) tl tc, .slice ba pl pc] w fun e w' => e = .returned (.int .i64 (-2)) ∧ Below w.heap.size w w' := by
  have B0 := hide (bel2 (w := w) (.cells #[.slice a1 l1 c1, .slice a2 l2 c2, .slice a3 l3 c3] 27) (.cells #[.int .i64 dm, .int .i64 dq] 34))
  have H1 := hide (h1.below (unhide B0))
  have H2 := hide (h2.below (unhide B0))
  have H3 := hide (h3.below (unhide B0))
  have HR := hide (hr.below (unhide B0))
  have HP := hide (hb.below (unhide B0))
  clear h1 h2 h3 hr hb
  obtain ⟨W, hW⟩ : ∃ W, W = (w.alloc (.cells #[.slice a1 l1 c1, .slice a2 l2 c2, .slice a3 l3 c3] 27)).alloc (.cells #[.int .i64 dm, .int .i64 dq] 34) := ⟨_, rfl⟩
  have x0 : W.cell? ⟨w.heap.size, 0, none⟩ = some (.slice a1 l1 c1) := by rw [hW]; simp [go_sem]
  have x1 : W.cell? ⟨w.heap.size, 1, none⟩ = some (.slice a2 l2 c2) := by rw [hW]; simp [go_sem]
  have x2 : W.cell? ⟨w.heap.size, 2, none⟩ = some (.slice a3 l3 c3) := by rw [hW]; simp [go_sem]
  have y0 : W.cell? ⟨w.heap.size + 1, 0, none⟩ = some (.int .i64 dm) := by rw [hW]; simp [go_sem]
  have y1 : W.cell? ⟨w.heap.size + 1, 1, none⟩ = some (.int .i64 dq) := by rw [hW]; simp [go_sem]
  have sW : W.heap.size = w.heap.size + 2 := by rw [hW]; simp
  rw [← hW] at B0 H1 H2 H3 HR HP
  obtain ⟨ι, f, hne, hbel, hall⟩ := belClass W
  have hW0 : ∃ x, W = f x := hall W (Below.refl _ _)
  have x0 : ∀ x, (f x).cell? ⟨w.heap.size, 0, none⟩ = some (.slice a1 l1 c1) := fun x => ((hbel x).cell (p := ⟨w.heap.size, 0, none⟩) (by simp; omega)).trans x0
  have x1 : ∀ x, (f x).cell? ⟨w.heap.size, 1, none⟩ = some (.slice a2 l2 c2) := fun x => ((hbel x).cell (p := ⟨w.heap.size, 1, none⟩) (by simp; omega)).trans x1
  have x2 : ∀ x, (f x).cell? ⟨w.heap.size, 2, none⟩ = some (.slice a3 l3 c3) := fun x => ((hbel x).cell (p := ⟨w.heap.size, 2, none⟩) (by simp; omega)).trans x2
  have y0 : ∀ x, (f x).cell? ⟨w.heap.size + 1, 0, none⟩ = some (.int .i64 dm) := fun x => ((hbel x).cell (p := ⟨w.heap.size + 1, 0, none⟩) (by simp; omega)).trans y0
  have y1 : ∀ x, (f x).cell? ⟨w.heap.size + 1, 1, none⟩ = some (.int .i64 dq) := fun x => ((hbel x).cell (p := ⟨w.heap.size + 1, 1, none⟩) (by simp; omega)).trans y1
  have H1 := hide fun x => (unhide H1).below (hbel x)
  have H2 := hide fun x => (unhide H2).below (hbel x)
  have H3 := hide fun x => (unhide H3).below (hbel x)
  have HR := hide fun x => (unhide HR).below (hbel x)
  have HP := hide fun x => (unhide HP).below (hbel x)
  have HB := hide fun x => (unhide B0).trans ((hbel x).mono (by omega))
  have HL := hide hbel
  have HX := hide hall
  have HZ : Hid (∀ x, w.heap.size + 2 ≤ (f x).heap.size) := hide fun x => by have := (hbel x).size; omega
  clear hbel hall B0 sW
  go_enter Try.func29, Try.ntmps29
  go_wp2_with fail
  rw [← hW]
  clear hW
  obtain ⟨xw, hxw⟩ := hW0
  rw [hxw]
  clear hxw
  refine (implEnvelopeOk_is _ _ _ _ _ _ _ _ _ ms fs gs _ he (unhide H1 xw) (unhide H2 xw) (unhide H3 xw)).mono ?_
  rintro e w1 ⟨rfl, b1⟩
  obtain ⟨xv, rfl⟩ := unhide HX _ ((unhide HL xw).trans (b1.mono (unhide HL xw).size))
  clear b1
  go_wp2_with fail
  refine (dryOk_is dm dq _ hd).mono ?_
  rintro e w2 ⟨rfl, b2⟩
  obtain ⟨xu, rfl⟩ := unhide HX _ ((unhide HL xv).trans (b2.mono (unhide HL xv).size))
  clear b2
  go_wp2_with fail
  go_ret
  exact ⟨rfl, unhide HB xu⟩

set_option maxHeartbeats 2000000 in
theorem implLeaves_code (a1 a2 a3 : Option Addr) (l1 c1 l2 c2 l3 c3 : Nat) (ms fs gs : List Int) (dm dq : Int) (tb toff tl tc : Nat) (ba : Option Addr) (pl pc : Nat) (ts bs : List (Int × Int)) (w : World) (h1 : Row w a1 l1 ms) (h2 : Row w a2 l2 fs) (h3 : Row w a3 l3 gs) (_hcap1 : l1 ≤ c1) (_hcap2 : l2 ≤ c2) (_hcap3 : l3 ≤ c3) (hr : Row2 w (some ⟨tb, toff, none⟩) tl ts) (hb : Row2 w ba pl bs) (he : envB ms fs gs = true) (hd : dryB dm dq = true) (hc : ¬ burntC ts bs = -1) :
    Calls Try.prog 29 #[.agg #[.slice a1 l1 c1, .slice a2 l2 c2, .slice a3 l3 c3], .agg #[.int .i64 dm, .int .i64 dq], .slice (some ⟨tb, toff, none⟩) tl tc, .slice ba pl pc] w fun e w' => e = .returned (.int .i64 (-2)) ∧ Below w.heap.size w w' := by
  have B0 := hide (bel2 (w := w) (.cells #[.slice a1 l1 c1, .slice a2 l2 c2, .slice a3 l3 c3] 27) (.cells #[.int .i64 dm, .int .i64 dq] 34))
  have H1 := hide (h1.below (unhide B0))
  have H2 := hide (h2.below (unhide B0))
  have H3 := hide (h3.below (unhide B0))
  have HR := hide (hr.below (unhide B0))
  have HP := hide (hb.below (unhide B0))
  clear h1 h2 h3 hr hb
  have hcode : (burntC ts bs != -1) = true := by simp [hc]
  clear hc
  obtain ⟨W, hW⟩ : ∃ W, W = (w.alloc (.cells #[.slice a1 l1 c1, .slice a2 l2 c2, .slice a3 l3 c3] 27)).alloc (.cells #[.int .i64 dm, .int .i64 dq] 34) := ⟨_, rfl⟩
  have x0 : W.cell? ⟨w.heap.size, 0, none⟩ = some (.slice a1 l1 c1) := by rw [hW]; simp [go_sem]
  have x1 : W.cell? ⟨w.heap.size, 1, none⟩ = some (.slice a2 l2 c2) := by rw [hW]; simp [go_sem]
  have x2 : W.cell? ⟨w.heap.size, 2, none⟩ = some (.slice a3 l3 c3) := by rw [hW]; simp [go_sem]
  have y0 : W.cell? ⟨w.heap.size + 1, 0, none⟩ = some (.int .i64 dm) := by rw [hW]; simp [go_sem]
  have y1 : W.cell? ⟨w.heap.size + 1, 1, none⟩ = some (.int .i64 dq) := by rw [hW]; simp [go_sem]
  have sW : W.heap.size = w.heap.size + 2 := by rw [hW]; simp
  rw [← hW] at B0 H1 H2 H3 HR HP
  obtain ⟨ι, f, hne, hbel, hall⟩ := belClass W
  have hW0 : ∃ x, W = f x := hall W (Below.refl _ _)
  have x0 : ∀ x, (f x).cell? ⟨w.heap.size, 0, none⟩ = some (.slice a1 l1 c1) := fun x => ((hbel x).cell (p := ⟨w.heap.size, 0, none⟩) (by simp; omega)).trans x0
  have x1 : ∀ x, (f x).cell? ⟨w.heap.size, 1, none⟩ = some (.slice a2 l2 c2) := fun x => ((hbel x).cell (p := ⟨w.heap.size, 1, none⟩) (by simp; omega)).trans x1
  have x2 : ∀ x, (f x).cell? ⟨w.heap.size, 2, none⟩ = some (.slice a3 l3 c3) := fun x => ((hbel x).cell (p := ⟨w.heap.size, 2, none⟩) (by simp; omega)).trans x2
  have y0 : ∀ x, (f x).cell? ⟨w.heap.size + 1, 0, none⟩ = some (.int .i64 dm) := fun x => ((hbel x).cell (p := ⟨w.heap.size + 1, 0, none⟩) (by simp; omega)).trans y0
  have y1 : ∀ x, (f x).cell? ⟨w.heap.size + 1, 1, none⟩ = some (.int .i64 dq) := fun x => ((hbel x).cell (p := ⟨w.heap.size + 1, 1, none⟩) (by simp; omega)).trans y1
  have H1 := hide fun x => (unhide H1).below (hbel x)
  have H2 := hide fun x => (unhide H2).below (hbel x)
  have H3 := hide fun x => (unhide H3).below (hbel x)
  have HR := hide fun x => (unhide HR).below (hbel x)
  have HP := hide fun x => (unhide HP).below (hbel x)
  have HB := hide fun x => (unhide B0).trans ((hbel x).mono (by omega))
  have HL := hide hbel
  have HX := hide hall
  have HZ : Hid (∀ x, w.heap.size + 2 ≤ (f x).heap.size) := hide fun x => by have := (hbel x).size; omega
  clear hbel hall B0 sW
  go_enter Try.func29, Try.ntmps29
  go_wp2_with fail
  rw [← hW]
  clear hW
  obtain ⟨xw, hxw⟩ := hW0
  rw [hxw]
  clear hxw
  refine (implEnvelopeOk_is _ _ _ _ _ _ _ _ _ ms fs gs _ he (unhide H1 xw) (unhide H2 xw) (unhide H3 xw)).mono ?_
  rintro e w1 ⟨rfl, b1⟩
  obtain ⟨xv, rfl⟩ := unhide HX _ ((unhide HL xw).trans (b1.mono (unhide HL xw).size))
  clear b1
  go_wp2_with fail
  refine (dryOk_is dm dq _ hd).mono ?_
  rintro e w2 ⟨rfl, b2⟩
  obtain ⟨xu, rfl⟩ := unhide HX _ ((unhide HL xv).trans (b2.mono (unhide HL xv).size))
  clear b2
  go_wp2_with fail
  refine (implBurnt_any _ _ _ _ _ _ _ ts bs _ (unhide HR xu) (unhide HP xu)).mono ?_
  rintro e w3 ⟨a, c, rfl, _, b3⟩
  obtain ⟨xt, rfl⟩ := unhide HX _ ((unhide HL xu).trans (b3.mono (unhide HL xu).size))
  clear b3
  go_wp2_with fail
  go_ret
  exact ⟨rfl, unhide HB xt⟩

set_option maxHeartbeats 4000000 in
theorem implLeaves_good (a1 a2 a3 : Option Addr) (l1 c1 l2 c2 l3 c3 : Nat) (ms fs gs : List Int) (dm dq : Int) (tb toff tl tc : Nat) (ba : Option Addr) (pl pc : Nat) (ts bs : List (Int × Int)) (w : World) (h1 : Row w a1 l1 ms) (h2 : Row w a2 l2 fs) (h3 : Row w a3 l3 gs) (hcap1 : l1 ≤ c1) (hcap2 : l2 ≤ c2) (hcap3 : l3 ≤ c3) (hr : Row2 w (some ⟨tb, toff, none⟩) tl ts) (hb : Row2 w ba pl bs) (he : envB ms fs gs = true) (hd : dryB dm dq = true) (hc : burntC ts bs = -1) :
    Calls Try.prog 29 #[.agg #[.slice a1 l1 c1, .slice a2 l2 c2, .slice a3 l3 c3], .agg #[.int .i64 dm, .int .i64 dq], .slice (some ⟨tb, toff, none⟩) tl tc, .slice ba pl pc] w fun e w' => e = .returned (.int .i64 (leavesV ms fs gs dm dq ts bs)) ∧ Below w.heap.size w w' := by
  have hl1 := hr.len_eq
  have hl2 := hb.len_eq
  subst hl1
  subst hl2
  have B0 := hide (bel2 (w := w) (.cells #[.slice a1 l1 c1, .slice a2 l2 c2, .slice a3 l3 c3] 27) (.cells #[.int .i64 dm, .int .i64 dq] 34))
  have H1 := hide (h1.below (unhide B0))
  have H2 := hide (h2.below (unhide B0))
  have H3 := hide (h3.below (unhide B0))
  have HR := hide (hr.below (unhide B0))
  have HP := hide (hb.below (unhide B0))
  clear h1 h2 h3 hr hb
  have HK : Hid (leavesOk ms fs gs dm dq ts bs = true) := hide (by simp [leavesOk, he, hd, hc])
  have hcode : (burntC ts bs != -1) = false := by simp [hc]
  have HA := hide (burntC_all hc)
  have HD := hide hd
  have HT : Hid (tanksB ts = true) := by have := (unhide HA).1; simp only [burntOk, Bool.and_eq_true] at this; exact hide this.1
  have h8 := (tanks_facts (unhide HT)).1
  have h60 : bs.length ≤ 60 := by have := (unhide HA).1; simp only [burntOk, Bool.and_eq_true, decide_eq_true_eq] at this; exact this.2
  have HBD := hide fun k (hk : k ≤ bs.length) => mass_bd (k := k) h8 hd (tanks_facts (unhide HT)).2 (fun j hj => (unhide HA).2 j (by omega))
  clear hc
  obtain ⟨W, hW⟩ : ∃ W, W = (w.alloc (.cells #[.slice a1 l1 c1, .slice a2 l2 c2, .slice a3 l3 c3] 27)).alloc (.cells #[.int .i64 dm, .int .i64 dq] 34) := ⟨_, rfl⟩
  have x0 : W.cell? ⟨w.heap.size, 0, none⟩ = some (.slice a1 l1 c1) := by rw [hW]; simp [go_sem]
  have x1 : W.cell? ⟨w.heap.size, 1, none⟩ = some (.slice a2 l2 c2) := by rw [hW]; simp [go_sem]
  have x2 : W.cell? ⟨w.heap.size, 2, none⟩ = some (.slice a3 l3 c3) := by rw [hW]; simp [go_sem]
  have y0 : W.cell? ⟨w.heap.size + 1, 0, none⟩ = some (.int .i64 dm) := by rw [hW]; simp [go_sem]
  have y1 : W.cell? ⟨w.heap.size + 1, 1, none⟩ = some (.int .i64 dq) := by rw [hW]; simp [go_sem]
  have sW : W.heap.size = w.heap.size + 2 := by rw [hW]; simp
  rw [← hW] at B0 H1 H2 H3 HR HP
  obtain ⟨ι, f, hne, hbel, hall⟩ := belClass W
  have hW0 : ∃ x, W = f x := hall W (Below.refl _ _)
  have x0 : ∀ x, (f x).cell? ⟨w.heap.size, 0, none⟩ = some (.slice a1 l1 c1) := fun x => ((hbel x).cell (p := ⟨w.heap.size, 0, none⟩) (by simp; omega)).trans x0
  have x1 : ∀ x, (f x).cell? ⟨w.heap.size, 1, none⟩ = some (.slice a2 l2 c2) := fun x => ((hbel x).cell (p := ⟨w.heap.size, 1, none⟩) (by simp; omega)).trans x1
  have x2 : ∀ x, (f x).cell? ⟨w.heap.size, 2, none⟩ = some (.slice a3 l3 c3) := fun x => ((hbel x).cell (p := ⟨w.heap.size, 2, none⟩) (by simp; omega)).trans x2
  have y0 : ∀ x, (f x).cell? ⟨w.heap.size + 1, 0, none⟩ = some (.int .i64 dm) := fun x => ((hbel x).cell (p := ⟨w.heap.size + 1, 0, none⟩) (by simp; omega)).trans y0
  have y1 : ∀ x, (f x).cell? ⟨w.heap.size + 1, 1, none⟩ = some (.int .i64 dq) := fun x => ((hbel x).cell (p := ⟨w.heap.size + 1, 1, none⟩) (by simp; omega)).trans y1
  have H1 := hide fun x => (unhide H1).below (hbel x)
  have H2 := hide fun x => (unhide H2).below (hbel x)
  have H3 := hide fun x => (unhide H3).below (hbel x)
  have HR := hide fun x => (unhide HR).below (hbel x)
  have HP := hide fun x => (unhide HP).below (hbel x)
  have HB := hide fun x => (unhide B0).trans ((hbel x).mono (by omega))
  have HL := hide hbel
  have HX := hide hall
  have HZ : Hid (∀ x, w.heap.size + 2 ≤ (f x).heap.size) := hide fun x => by have := (hbel x).size; omega
  clear hbel hall B0 sW
  go_enter Try.func29, Try.ntmps29
  go_wp2_with fail
  rw [← hW]
  clear hW
  obtain ⟨xw, hxw⟩ := hW0
  rw [hxw]
  clear hxw
  refine (implEnvelopeOk_is _ _ _ _ _ _ _ _ _ ms fs gs _ he (unhide H1 xw) (unhide H2 xw) (unhide H3 xw)).mono ?_
  rintro e w1 ⟨rfl, b1⟩
  obtain ⟨xv, rfl⟩ := unhide HX _ ((unhide HL xw).trans (b1.mono (unhide HL xw).size))
  clear b1
  go_wp2_with fail
  refine (dryOk_is dm dq _ hd).mono ?_
  rintro e w2 ⟨rfl, b2⟩
  obtain ⟨xu, rfl⟩ := unhide HX _ ((unhide HL xv).trans (b2.mono (unhide HL xv).size))
  clear b2
  go_wp2_with fail
  refine (implBurnt_any _ _ _ _ _ _ _ ts bs _ (unhide HR xu) (unhide HP xu)).mono ?_
  rintro e w3 ⟨a, c, rfl, _, b3⟩
  obtain ⟨xt, rfl⟩ := unhide HX _ ((unhide HL xu).trans (b3.mono (unhide HL xu).size))
  clear b3
  go_wp2_with fail
  have fd := dry_facts (unhide HD)
  refine (sumWithFuel_any dm dq _ _ _ ts _ (unhide HR xt) (by omega) (tanks_facts (unhide HT)).2 fd.1 fd.2).mono ?_
  rintro e w4 ⟨rfl, b4⟩
  clear fd
  obtain ⟨xs, rfl⟩ := unhide HX _ ((unhide HL xt).trans (b4.mono (unhide HL xt).size))
  clear b4
  have hzs := unhide HZ xs
  have hlt1 : w.heap.size < (f xs).heap.size := by omega
  have xs0 := x0 xs
  have xs1 := x1 xs
  have xs2 := x2 xs
  go_wp2_with fail
  have hP0 : Pc ((f xs).alloc (Obj.cells #[.int .i64 (dm + sumM ts ts.length), .int .i64 (dq + sumQ ts ts.length)] 34)) (f xs).heap.size (massB dm ts bs 0) (momB dq ts bs 0) := Pc.new _ _ _
  have hB0 : Below (f xs).heap.size (f xs) ((f xs).alloc (Obj.cells #[.int .i64 (dm + sumM ts ts.length), .int .i64 (dq + sumQ ts ts.length)] 34)) := bel1 _
  -- the class of worlds in which all but the sum's own block is as it was
  obtain ⟨κ, g, hne2, hb2, hall2⟩ := belClass (f xs)
  have hgf : ∀ y, ∃ z, g y = f z := fun y => unhide HX _ ((unhide HL xs).trans ((hb2 y).mono (unhide HL xs).size))
  have x0 : ∀ y, (g y).cell? ⟨w.heap.size, 0, none⟩ = some (.slice a1 l1 c1) := fun y => by obtain ⟨z, hz⟩ := hgf y; rw [hz]; exact x0 z
  have x1 : ∀ y, (g y).cell? ⟨w.heap.size, 1, none⟩ = some (.slice a2 l2 c2) := fun y => by obtain ⟨z, hz⟩ := hgf y; rw [hz]; exact x1 z
  have x2 : ∀ y, (g y).cell? ⟨w.heap.size, 2, none⟩ = some (.slice a3 l3 c3) := fun y => by obtain ⟨z, hz⟩ := hgf y; rw [hz]; exact x2 z
  have G1 := hide fun y => show Row (g y) a1 l1 ms by obtain ⟨z, hz⟩ := hgf y; rw [hz]; exact unhide H1 z
  have G2 := hide fun y => show Row (g y) a2 l2 fs by obtain ⟨z, hz⟩ := hgf y; rw [hz]; exact unhide H2 z
  have G3 := hide fun y => show Row (g y) a3 l3 gs by obtain ⟨z, hz⟩ := hgf y; rw [hz]; exact unhide H3 z
  have GR := hide fun y => show Row2 (g y) (some ⟨tb, toff, none⟩) ts.length ts by obtain ⟨z, hz⟩ := hgf y; rw [hz]; exact unhide HR z
  have GO := hide fun y => show (bs.length = 0 ∧ bs = []) ∨ ∃ b off, ba = some ⟨b, off, none⟩ ∧ 0 < bs.length ∧ ∀ i, i < bs.length → (g y).cell? ⟨b, off + i * 2, none⟩ = some (.int .i64 (fstAt bs i)) ∧ (g y).cell? ⟨b, off + i * 2 + 1, none⟩ = some (.int .i64 (sndAt bs i)) by obtain ⟨z, hz⟩ := hgf y; rw [hz]; exact (unhide HP z).open_
  have GB := hide fun y => show Below w.heap.size w (g y) by obtain ⟨z, hz⟩ := hgf y; rw [hz]; exact unhide HB z
  obtain ⟨S, hS⟩ : ∃ S, (f xs).heap.size = S := ⟨_, rfl⟩
  have GL : Hid (∀ y, Below S (f xs) (g y)) := hide (by rw [← hS]; exact hb2)
  have GX : Hid (∀ w', Below S (f xs) w' → ∃ y, w' = g y) := hide (by rw [← hS]; exact hall2)
  have hs0 : w.heap.size + 2 ≤ S := by omega
  have hn1 : ¬ S = w.heap.size := by omega
  have hn2 : ¬ w.heap.size = S := by omega
  have GS : Hid (∀ y, S ≤ (g y).heap.size) := hide fun y => by have := (hb2 y).size; omega
  obtain ⟨ya, hya⟩ := hall2 _ hB0
  rw [hya, hS] at hP0
  have HP0 := hide hP0
  rw [hya, hS]
  clear hb2 hall2 hgf hP0 hB0 H1 H2 H3 HR HP HB HZ hya xs0 xs1 xs2 hzs hlt1 HL HX y0 y1 hS
  cases hi0 : inAt ms fs gs dm dq ts bs 0
  · have HE := hide (leaves_at (unhide HK) (Nat.zero_le _) hi0 (fun j hj => by omega))
    refine (implInside_is _ _ _ _ _ _ _ _ _ ms fs gs _ _ _ hi0 (unhide G1 ya) (unhide G2 ya) (unhide G3 ya) hcap1 hcap2 hcap3).mono ?_
    rintro e w5 ⟨rfl, b5⟩
    have B5 := hide ((unhide GB ya).trans (b5.mono (unhide GB ya).size))
    clear b5 hi0
    go_wp2
    go_ret
    exact ⟨ret_int (unhide HE).symm, unhide B5⟩
  refine (implInside_is _ _ _ _ _ _ _ _ _ ms fs gs _ _ _ hi0 (unhide G1 ya) (unhide G2 ya) (unhide G3 ya) hcap1 hcap2 hcap3).mono ?_
  rintro e w5 ⟨rfl, b5⟩
  have hp5 := (unhide HP0).below b5
  obtain ⟨yb, rfl⟩ := unhide GX _ ((unhide GL ya).trans (b5.mono (unhide GS ya)))
  have HP5 := hide hp5
  have HI0 := hide hi0
  clear b5 hp5 hi0 HP0
  go_wp2_with fail
  go_loopw [39] (fun i wr => ∃ k : Nat, ∃ y, k ≤ bs.length ∧ i = .int .i64 k ∧ Hid (∀ j, j ≤ k → inAt ms fs gs dm dq ts bs j = true) ∧ wr = g y ∧ Pc wr S (massB dm ts bs k) (momB dq ts bs k)) (fun i _ => bs.length - (intOf i).toNat)
  case atStart => exact ⟨0, yb, Nat.zero_le _, rfl, (fun j hj => (show (0 : Nat) = j by omega) ▸ unhide HI0), rfl, unhide HP5⟩
  case round =>
    obtain ⟨k, y, hk, rfl, hin, hwr, hpc⟩ := hrel
    subst wr
    by_cases hlt : k < bs.length
    · rcases (unhide GO y) with ⟨h0, _⟩ | ⟨bb, off, rfl, _, hc⟩
      · omega
      obtain ⟨ca, cb⟩ := hc k hlt
      have hcan := (unhide HA).2 k hlt
      obtain ⟨⟨f1, f2⟩, f3, f4⟩ := can_facts hcan
      rw [afterB_len] at f2
      obtain ⟨t, ht⟩ : ∃ t : Nat, fstAt bs k = (t : Int) := ⟨(fstAt bs k).toNat, by omega⟩
      rw [ht] at ca
      have hsu := massB_succ (dm := dm) (dq := dq) hcan
      rw [ht, Int.toNat_natCast] at hsu
      have bd0 := unhide HBD k (by omega)
      have bd1 := unhide HBD (k + 1) (by omega)
      rw [hsu.1, hsu.2] at bd1
      have hit := item_facts ((tanks_facts (unhide HT)).2 t (by omega))
      have hpr := mulBd (A := 10000) (B := 1000) (s := -sndAt bs k) (d := sndAt ts t) (by omega) (by omega) (by omega) (by omega) (by omega) (by omega)
      have lca := block_lt_of_cell ca
      have hi1 : (k : Int) < (bs.length : Int) := by omega
      have m0 := hpc.c0
      have m1 := hpc.c1
      have hV := hpc.lt
      have ht1 : t < ts.length := by omega
      have HSU := hide hsu
      have PA := hide (hpc.below (bel1 (Obj.cells #[.int .i64 t, .int .i64 (sndAt bs k)] 76)))
      have BA := hide ((unhide GL y).trans ((bel1 (w := g y) (Obj.cells #[.int .i64 t, .int .i64 (sndAt bs k)] 76)).mono (unhide GS y)))
      have RA := hide ((unhide GR y).alloc (Obj.cells #[.int .i64 t, .int .i64 (sndAt bs k)] 76))
      have f5 : 1 ≤ sndAt bs k ∧ sndAt bs k ≤ 10000 := f3
      clear hc hpc hcan f1 f2 f3 f4 ht hsu hit
      generalize massB dm ts bs k = M at *
      generalize momB dq ts bs k = Q at *
      generalize sndAt bs k = n at *
      go_wp2_with fail
      refine (sumBehind_any M Q _ _ _ ts t n _ (unhide RA) ht1 h8 (by omega) (by omega) (by omega) (by omega)).mono ?_
      rintro e w6 ⟨rfl, b6⟩
      have hp6 := (unhide PA).below b6
      have n0 := hp6.c0
      have n1 := hp6.c1
      have z0 := hp6.f0
      have z1 := hp6.f1
      have P7 := hide (hp6.set (M + -n) (Q + -n * sndAt ts t))
      have B7 := hide ((((unhide BA).trans (b6.mono (by have := unhide GS y; simp; omega))).setCell (p := ⟨S, 0, none⟩) (Nat.le_refl _) (.int .i64 (M + -n))).setCell (p := ⟨S, 1, none⟩) (Nat.le_refl _) (.int .i64 (Q + -n * sndAt ts t)))
      obtain ⟨yc, hyc⟩ := unhide GX _ (unhide B7)
      rw [hyc] at P7
      have xc0 := x0 yc
      have xc1 := x1 yc
      have xc2 := x2 yc
      have p70 := (unhide P7).c0
      have p71 := (unhide P7).c1
      rw [← hyc] at xc0 xc1 xc2 p70 p71
      have HYC := hide hyc
      clear hp6 b6 hyc
      go_wp2_with fail
      rw [unhide HYC]
      cases hi : inAt ms fs gs dm dq ts bs (k + 1)
      · have hi' : insB ms fs gs (M + -n) (Q + -n * sndAt ts t) = false := by have h := hi; unfold inAt at h; rwa [(unhide HSU).1, (unhide HSU).2] at h
        have HE := hide (leaves_at (unhide HK) (show k + 1 ≤ bs.length by omega) hi (fun j hj => hin.out j (by omega)))
        refine (implInside_is _ _ _ _ _ _ _ _ _ ms fs gs _ _ _ hi' (unhide G1 yc) (unhide G2 yc) (unhide G3 yc) hcap1 hcap2 hcap3).mono ?_
        rintro e w8 ⟨rfl, b8⟩
        have B8 := hide ((unhide GB yc).trans (b8.mono (unhide GB yc).size))
        clear b8 hi hi' xc0 xc1 xc2 p70 p71 n0 n1 z0 z1
        go_wp2
        go_ret
        exact ⟨ret_int (by rw [unhide HE]; simp), unhide B8⟩
      · have hi' : insB ms fs gs (M + -n) (Q + -n * sndAt ts t) = true := by have h := hi; unfold inAt at h; rwa [(unhide HSU).1, (unhide HSU).2] at h
        have HI := hide hi
        refine (implInside_is _ _ _ _ _ _ _ _ _ ms fs gs _ _ _ hi' (unhide G1 yc) (unhide G2 yc) (unhide G3 yc) hcap1 hcap2 hcap3).mono ?_
        rintro e w8 ⟨rfl, b8⟩
        have P8 := hide ((unhide P7).below b8)
        obtain ⟨yd, rfl⟩ := unhide GX _ ((unhide GL yc).trans (b8.mono (unhide GS yc)))
        clear b8 hi hi' xc0 xc1 xc2 p70 p71 n0 n1 z0 z1
        go_wp2
        go_roundw
        case rel => exact ⟨k + 1, yd, by omega, by go_num, (fun j hj => by rcases Nat.lt_or_eq_of_le hj with h | h; exact hin.out j (by omega); subst h; exact unhide HI), rfl, by rw [(unhide HSU).1, (unhide HSU).2]; exact unhide P8⟩
        case measure => simp [intOf]; omega
    · have hkk : k = bs.length := by omega
      subst hkk
      have HE := hide (leaves_all (unhide HK) hin.out)
      clear hpc
      go_wp2
      go_ret
      exact ⟨ret_int (unhide HE).symm, unhide GB y⟩

theorem implLeaves_any (a1 a2 a3 : Option Addr) (l1 c1 l2 c2 l3 c3 : Nat) (ms fs gs : List Int) (dm dq : Int) (tb toff tl tc : Nat) (ba : Option Addr) (pl pc : Nat) (ts bs : List (Int × Int)) (w : World) (h1 : Row w a1 l1 ms) (h2 : Row w a2 l2 fs) (h3 : Row w a3 l3 gs) (hcap1 : l1 ≤ c1) (hcap2 : l2 ≤ c2) (hcap3 : l3 ≤ c3) (hr : Row2 w (some ⟨tb, toff, none⟩) tl ts) (hb : Row2 w ba pl bs) :
    Calls Try.prog 29 #[.agg #[.slice a1 l1 c1, .slice a2 l2 c2, .slice a3 l3 c3], .agg #[.int .i64 dm, .int .i64 dq], .slice (some ⟨tb, toff, none⟩) tl tc, .slice ba pl pc] w fun e w' => e = .returned (.int .i64 (leavesV ms fs gs dm dq ts bs)) ∧ Below w.heap.size w w' := by
  cases he : envB ms fs gs
  · rw [leaves_bad (by simp [leavesOk, he])]; exact implLeaves_env a1 a2 a3 l1 c1 l2 c2 l3 c3 ms fs gs dm dq tb toff tl tc ba pl pc ts bs w h1 h2 h3 hcap1 hcap2 hcap3 hr hb he
  · cases hd : dryB dm dq
    · rw [leaves_bad (by simp [leavesOk, hd])]; exact implLeaves_dry a1 a2 a3 l1 c1 l2 c2 l3 c3 ms fs gs dm dq tb toff tl tc ba pl pc ts bs w h1 h2 h3 hcap1 hcap2 hcap3 hr hb he hd
    · by_cases hc : burntC ts bs = -1
      · exact implLeaves_good a1 a2 a3 l1 c1 l2 c2 l3 c3 ms fs gs dm dq tb toff tl tc ba pl pc ts bs w h1 h2 h3 hcap1 hcap2 hcap3 hr hb he hd hc
      · rw [leaves_bad (by simp [leavesOk, hc])]; exact implLeaves_code a1 a2 a3 l1 c1 l2 c2 l3 c3 ms fs gs dm dq tb toff tl tc ba pl pc ts bs w h1 h2 h3 hcap1 hcap2 hcap3 hr hb he hd hc

end Go.Proofs.Ytbaocifpifbldaj
