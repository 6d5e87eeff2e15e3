/-
  What Leaves answers in the model: the plain place, at every envelope, dry sum, tanks and plan; nothing that was there is written.
-/
import Derived.Test.YtbaocifpifbldajLeavesPure
import Derived.Test.YtbaocifpifbldajFuelSpec
import Derived.Test.YtbaocifpifbldajInsSpec
import Derived.Test.YtbaocifpifbldajBurntSpec
namespace Go.Proofs.Ytbaocifpifbldaj
open Go.RowKit

theorem Row2.take {w : World} {b off len : Nat} {ps : List (Int × Int)} (h : Row2 w (some ⟨b, off, none⟩) len ps) (j : Nat) (hj : j ≤ len) : Row2 w (some ⟨b, off, none⟩) j (ps.take j) := by
  have hl := h.len_eq
  refine ⟨by simp; omega, by have := h.small; omega, fun i hi => ?_, fun i => ?_⟩
  · obtain ⟨e1, e2⟩ := take_at ps j i hi
    rw [e1, e2]
    exact h.cells i (by omega)
  · by_cases hi : i < j
    · obtain ⟨e1, e2⟩ := take_at ps j i hi
      rw [e1, e2]
      exact h.fit i
    · unfold fstAt sndAt
      rw [List.getElem?_take, if_neg hi]
      simp

set_option maxHeartbeats 2000000 in
theorem specLeaves_bad (a1 a2 a3 : Option Addr) (l1 c1 l2 c2 l3 c3 : Nat) (ms fs gs : List Int) (dm dq : Int) (tb toff tl tc pb poff pl pc : Nat) (ts bs : List (Int × Int)) (w : World) (h1 : Row w a1 l1 ms) (h2 : Row w a2 l2 fs) (h3 : Row w a3 l3 gs) (hr : Row2 w (some ⟨tb, toff, none⟩) tl ts) (hb : Row2 w (some ⟨pb, poff, none⟩) pl bs) (hok : leavesOk ms fs gs dm dq ts bs = false) :
    Calls Try.prog 28 #[.agg #[.slice a1 l1 c1, .slice a2 l2 c2, .slice a3 l3 c3], .agg #[.int .i64 dm, .int .i64 dq], .slice (some ⟨tb, toff, none⟩) tl tc, .slice (some ⟨pb, poff, none⟩) pl pc] w fun e w' => e = .returned (.int .i64 (-2)) ∧ Below w.heap.size w w' := by
  have B0 := hide (bel2 (w := w) (.cells #[.slice a1 l1 c1, .slice a2 l2 c2, .slice a3 l3 c3] 27) (.cells #[.int .i64 dm, .int .i64 dq] 34))
  have H1 := hide (h1.below (unhide B0))
  have H2 := hide (h2.below (unhide B0))
  have H3 := hide (h3.below (unhide B0))
  have HR := hide (hr.below (unhide B0))
  have HP := hide (hb.below (unhide B0))
  clear h1 h2 h3 hr hb
  cases he : (envB ms fs gs && dryB dm dq)
  all_goals
    try (have hcode : (burntC ts bs != -1) = true := by simp only [leavesOk, he, Bool.true_and, decide_eq_false_iff_not] at hok; simp [hok])
    clear hok
    go_enter Try.func28, Try.ntmps28
    go_wp2_with fail
    refine (specBurnt_any _ _ _ _ _ _ _ ts bs _ (unhide HR) (unhide HP)).mono ?_
    rintro e w1 ⟨a, c, rfl, _, b1⟩
    have x0 : w1.cell? ⟨w.heap.size, 0, none⟩ = some (.slice a1 l1 c1) := (b1.cell (p := ⟨w.heap.size, 0, none⟩) (by simp; omega)).trans (by simp [go_sem])
    have x1 : w1.cell? ⟨w.heap.size, 1, none⟩ = some (.slice a2 l2 c2) := (b1.cell (p := ⟨w.heap.size, 1, none⟩) (by simp; omega)).trans (by simp [go_sem])
    have x2 : w1.cell? ⟨w.heap.size, 2, none⟩ = some (.slice a3 l3 c3) := (b1.cell (p := ⟨w.heap.size, 2, none⟩) (by simp; omega)).trans (by simp [go_sem])
    have y0 : w1.cell? ⟨w.heap.size + 1, 0, none⟩ = some (.int .i64 dm) := (b1.cell (p := ⟨w.heap.size + 1, 0, none⟩) (by simp)).trans (by simp [go_sem])
    have y1 : w1.cell? ⟨w.heap.size + 1, 1, none⟩ = some (.int .i64 dq) := (b1.cell (p := ⟨w.heap.size + 1, 1, none⟩) (by simp)).trans (by simp [go_sem])
    have B1 := hide ((unhide B0).trans (b1.mono (by simp; omega)))
    have H1 := hide ((unhide H1).below b1)
    have H2 := hide ((unhide H2).below b1)
    have H3 := hide ((unhide H3).below b1)
    clear b1
    go_wp2_with fail
    refine (l2Dry_is _ _ _ _ _ _ _ _ _ ms fs gs dm dq _ he (unhide H1) (unhide H2) (unhide H3)).mono ?_
    rintro e w2 ⟨rfl, b2⟩
    have B2 := hide ((unhide B1).trans (b2.mono (unhide B1).size))
    clear b2
    go_wp2_with fail
    go_ret
    exact ⟨rfl, unhide B2⟩

set_option maxHeartbeats 4000000 in
theorem specLeaves_good (a1 a2 a3 : Option Addr) (l1 c1 l2 c2 l3 c3 : Nat) (ms fs gs : List Int) (dm dq : Int) (tb toff tl tc pb poff pl pc : Nat) (ts bs : List (Int × Int)) (w : World) (h1 : Row w a1 l1 ms) (h2 : Row w a2 l2 fs) (h3 : Row w a3 l3 gs) (hr : Row2 w (some ⟨tb, toff, none⟩) tl ts) (hb : Row2 w (some ⟨pb, poff, none⟩) pl bs) (hcap : pl ≤ pc) (hok : leavesOk ms fs gs dm dq ts bs = true) :
    Calls Try.prog 28 #[.agg #[.slice a1 l1 c1, .slice a2 l2 c2, .slice a3 l3 c3], .agg #[.int .i64 dm, .int .i64 dq], .slice (some ⟨tb, toff, none⟩) tl tc, .slice (some ⟨pb, poff, none⟩) pl pc] w fun e w' => e = .returned (.int .i64 (leavesV ms fs gs dm dq ts bs)) ∧ Below w.heap.size w w' := by
  have hl1 := hr.len_eq
  have hl2 := hb.len_eq
  subst hl1
  subst hl2
  have B0 := hide (bel2 (w := w) (.cells #[.slice a1 l1 c1, .slice a2 l2 c2, .slice a3 l3 c3] 27) (.cells #[.int .i64 dm, .int .i64 dq] 34))
  have H1 := hide (h1.below (unhide B0))
  have H2 := hide (h2.below (unhide B0))
  have H3 := hide (h3.below (unhide B0))
  have HR := hide (hr.below (unhide B0))
  have HP := hide (hb.below (unhide B0))
  clear h1 h2 h3 hr hb
  have HK := hide hok
  have hpar : (envB ms fs gs && dryB dm dq) = true ∧ burntC ts bs = -1 := by simp only [leavesOk, Bool.and_eq_true, decide_eq_true_eq] at hok; exact ⟨by simp [hok.1.1, hok.1.2], hok.2⟩
  have he := hpar.1
  have hcode : (burntC ts bs != -1) = false := by simp [hpar.2]
  have HA := hide (burntC_all hpar.2)
  have hdry : Hid (dryB dm dq = true) := by simp only [Bool.and_eq_true] at he; exact hide he.2
  have HT : Hid (tanksB ts = true) := by have := (unhide HA).1; simp only [burntOk, Bool.and_eq_true] at this; exact hide this.1
  have h8 := (tanks_facts (unhide HT)).1
  have h60 : bs.length ≤ 60 := by have := (unhide HA).1; simp only [burntOk, Bool.and_eq_true, decide_eq_true_eq] at this; exact this.2
  clear hok hpar
  obtain ⟨W, hW⟩ : ∃ W, W = (w.alloc (.cells #[.slice a1 l1 c1, .slice a2 l2 c2, .slice a3 l3 c3] 27)).alloc (.cells #[.int .i64 dm, .int .i64 dq] 34) := ⟨_, rfl⟩
  have x0 : W.cell? ⟨w.heap.size, 0, none⟩ = some (.slice a1 l1 c1) := by rw [hW]; simp [go_sem]
  have x1 : W.cell? ⟨w.heap.size, 1, none⟩ = some (.slice a2 l2 c2) := by rw [hW]; simp [go_sem]
  have x2 : W.cell? ⟨w.heap.size, 2, none⟩ = some (.slice a3 l3 c3) := by rw [hW]; simp [go_sem]
  have y0 : W.cell? ⟨w.heap.size + 1, 0, none⟩ = some (.int .i64 dm) := by rw [hW]; simp [go_sem]
  have y1 : W.cell? ⟨w.heap.size + 1, 1, none⟩ = some (.int .i64 dq) := by rw [hW]; simp [go_sem]
  have sW : W.heap.size = w.heap.size + 2 := by rw [hW]; simp
  rw [← hW] at B0 H1 H2 H3 HR HP
  obtain ⟨ι, f, hne, hbel, hall⟩ := belClass W
  have hW0 : ∃ x, W = f x := hall W (Below.refl _ _)
  have x0 : ∀ x, (f x).cell? ⟨w.heap.size, 0, none⟩ = some (.slice a1 l1 c1) := fun x => ((hbel x).cell (p := ⟨w.heap.size, 0, none⟩) (by simp; omega)).trans x0
  have x1 : ∀ x, (f x).cell? ⟨w.heap.size, 1, none⟩ = some (.slice a2 l2 c2) := fun x => ((hbel x).cell (p := ⟨w.heap.size, 1, none⟩) (by simp; omega)).trans x1
  have x2 : ∀ x, (f x).cell? ⟨w.heap.size, 2, none⟩ = some (.slice a3 l3 c3) := fun x => ((hbel x).cell (p := ⟨w.heap.size, 2, none⟩) (by simp; omega)).trans x2
  have y0 : ∀ x, (f x).cell? ⟨w.heap.size + 1, 0, none⟩ = some (.int .i64 dm) := fun x => ((hbel x).cell (p := ⟨w.heap.size + 1, 0, none⟩) (by simp; omega)).trans y0
  have y1 : ∀ x, (f x).cell? ⟨w.heap.size + 1, 1, none⟩ = some (.int .i64 dq) := fun x => ((hbel x).cell (p := ⟨w.heap.size + 1, 1, none⟩) (by simp; omega)).trans y1
  have H1 := hide fun x => (unhide H1).below (hbel x)
  have H2 := hide fun x => (unhide H2).below (hbel x)
  have H3 := hide fun x => (unhide H3).below (hbel x)
  have HR := hide fun x => (unhide HR).below (hbel x)
  have HP := hide fun x => (unhide HP).below (hbel x)
  have HB := hide fun x => (unhide B0).trans ((hbel x).mono (by omega))
  have HL := hide hbel
  have HX := hide hall
  have HS : Hid (W.heap.size = w.heap.size + 2) := hide sW
  clear hbel hall B0 sW
  go_enter Try.func28, Try.ntmps28
  go_wp2_with fail
  rw [← hW]
  clear hW
  obtain ⟨xw, hxw⟩ := hW0
  rw [hxw]
  clear hxw
  refine (specBurnt_any _ _ _ _ _ _ _ ts bs _ (unhide HR xw) (unhide HP xw)).mono ?_
  rintro e w1 ⟨a, c, rfl, _, b1⟩
  obtain ⟨xv, rfl⟩ := unhide HX _ ((unhide HL xw).trans (b1.mono (unhide HL xw).size))
  clear b1
  go_wp2_with fail
  refine (l2Dry_is _ _ _ _ _ _ _ _ _ ms fs gs dm dq _ he (unhide H1 xv) (unhide H2 xv) (unhide H3 xv)).mono ?_
  rintro e w2 ⟨rfl, b2⟩
  obtain ⟨xu, rfl⟩ := unhide HX _ ((unhide HL xv).trans (b2.mono (unhide HL xv).size))
  clear b2
  go_wp2_with fail
  go_loopw [11] (fun i wr => ∃ j : Nat, ∃ x, j ≤ bs.length + 1 ∧ i = .int .i64 ((j : Int) - 1) ∧ Hid (∀ k, k < j → inAt ms fs gs dm dq ts bs k = true) ∧ wr = f x) (fun i _ => bs.length + 1 - (intOf i + 1).toNat)
  case atStart => exact ⟨0, xu, by omega, rfl, (fun k hk => by omega), rfl⟩
  case round =>
    obtain ⟨j, x, hj, rfl, hin, hwr⟩ := hrel
    subst wr
    by_cases hlt : j ≤ bs.length
    · have hcl : (j : Int) - 1 < (bs.length : Int) := by omega
      have e1 : (j : Int) - 1 + 1 = (j : Int) := by omega
      have hjc : (j : Int) ≤ (pc : Int) := by omega
      have hj0 : (0 : Int) ≤ (j : Int) := by omega
      have ET := hide (burnt_take (unhide HA).1 hlt (unhide HA).2)
      have hcan : Hid (∀ i, i < j → canAt ts bs i = true) := hide fun i hi => (unhide HA).2 i (by omega)
      go_wp2_with fail
      refine (specBurnt_any _ _ _ _ _ _ _ ts (bs.take j) _ (unhide HR x) ((unhide HP x).take j hlt)).mono ?_
      rintro e w3 ⟨a', c', rfl, o3, b3⟩
      have hw3 : Below W.heap.size W w3 := (unhide HL x).trans (b3.mono (unhide HL x).size)
      have R3 : Row2 w3 a' (burntT ts (bs.take j)).length (afterB ts bs j) := by rw [← unhide ET]; exact o3.row
      obtain ⟨κ, g, hne2, hb2, hall2⟩ := belClass w3
      have hgf : ∀ y, ∃ z, g y = f z := fun y => unhide HX _ (hw3.trans ((hb2 y).mono hw3.size))
      have x0 : ∀ y, (g y).cell? ⟨w.heap.size, 0, none⟩ = some (.slice a1 l1 c1) := fun y => by obtain ⟨z, hz⟩ := hgf y; rw [hz]; exact x0 z
      have x1 : ∀ y, (g y).cell? ⟨w.heap.size, 1, none⟩ = some (.slice a2 l2 c2) := fun y => by obtain ⟨z, hz⟩ := hgf y; rw [hz]; exact x1 z
      have x2 : ∀ y, (g y).cell? ⟨w.heap.size, 2, none⟩ = some (.slice a3 l3 c3) := fun y => by obtain ⟨z, hz⟩ := hgf y; rw [hz]; exact x2 z
      have y0 : ∀ y, (g y).cell? ⟨w.heap.size + 1, 0, none⟩ = some (.int .i64 dm) := fun y => by obtain ⟨z, hz⟩ := hgf y; rw [hz]; exact y0 z
      have y1 : ∀ y, (g y).cell? ⟨w.heap.size + 1, 1, none⟩ = some (.int .i64 dq) := fun y => by obtain ⟨z, hz⟩ := hgf y; rw [hz]; exact y1 z
      have G1 := hide fun y => show Row (g y) a1 l1 ms by obtain ⟨z, hz⟩ := hgf y; rw [hz]; exact unhide H1 z
      have G2 := hide fun y => show Row (g y) a2 l2 fs by obtain ⟨z, hz⟩ := hgf y; rw [hz]; exact unhide H2 z
      have G3 := hide fun y => show Row (g y) a3 l3 gs by obtain ⟨z, hz⟩ := hgf y; rw [hz]; exact unhide H3 z
      have fd := dry_facts (unhide hdry)
      have LW := hide fun y => show Calls Try.prog 59 #[.agg #[.int .i64 dm, .int .i64 dq], .slice a' (burntT ts (bs.take j)).length c'] (g y) fun e w' => e = .returned (.agg #[.int .i64 (massB dm ts bs j), .int .i64 (momB dq ts bs j)]) ∧ Below (g y).heap.size (g y) w' from by
        have := l2With_any dm dq a' _ c' (afterB ts bs j) (g y) (R3.below (hb2 y)) (by rw [← R3.len_eq, afterB_len]; exact h8) (afterB_items (tanks_facts (unhide HT)).2 j (unhide hcan)) fd.1 fd.2
        rw [afterB_len] at this
        exact this
      have HG := hide hgf
      have HB2 := hide hb2
      have HA2 := hide hall2
      clear b3 o3 R3 hw3 hb2 hall2 hgf fd
      go_wp2_with fail
      cases hi : inAt ms fs gs dm dq ts bs j
      · have SI := hide fun y => show Calls Try.prog 14 #[.agg #[.slice a1 l1 c1, .slice a2 l2 c2, .slice a3 l3 c3], .agg #[.int .i64 (massB dm ts bs j), .int .i64 (momB dq ts bs j)]] (g y) fun e w' => e = .returned (.bool false) ∧ Below (g y).heap.size (g y) w' from by
          have := specInside_any a1 a2 a3 l1 c1 l2 c2 l3 c3 ms fs gs (massB dm ts bs j) (momB dq ts bs j) (g y) (unhide G1 y) (unhide G2 y) (unhide G3 y)
          rw [show insB ms fs gs (massB dm ts bs j) (momB dq ts bs j) = false from hi] at this
          exact this
        have HE := hide (leaves_at (unhide HK) hlt hi hin.out)
        clear hi
        refine wp_region_bel (unhide HA2) (by kernel_rfl) (by kernel_rfl) ?_
        repeat (go_big_quiet_step (first
          | (go_at_call 59; exact belQ (unhide HB2) (unhide HA2) (unhide LW _))
          | (go_at_call 14; exact belQ (unhide HB2) (unhide HA2) (unhide SI _))))
        refine wpQuiet_nil ?_
        rintro _ ⟨y, rfl⟩
        obtain ⟨z, hz⟩ := unhide HG y
        rw [hz]
        go_wp2
        go_ret
        exact ⟨ret_int (unhide HE).symm, unhide HB z⟩
      · have SI := hide fun y => show Calls Try.prog 14 #[.agg #[.slice a1 l1 c1, .slice a2 l2 c2, .slice a3 l3 c3], .agg #[.int .i64 (massB dm ts bs j), .int .i64 (momB dq ts bs j)]] (g y) fun e w' => e = .returned (.bool true) ∧ Below (g y).heap.size (g y) w' from by
          have := specInside_any a1 a2 a3 l1 c1 l2 c2 l3 c3 ms fs gs (massB dm ts bs j) (momB dq ts bs j) (g y) (unhide G1 y) (unhide G2 y) (unhide G3 y)
          rw [show insB ms fs gs (massB dm ts bs j) (momB dq ts bs j) = true from hi] at this
          exact this
        have HI := hide hi
        clear hi
        refine wp_region_bel (unhide HA2) (by kernel_rfl) (by kernel_rfl) ?_
        repeat (go_big_quiet_step (first
          | (go_at_call 59; exact belQ (unhide HB2) (unhide HA2) (unhide LW _))
          | (go_at_call 14; exact belQ (unhide HB2) (unhide HA2) (unhide SI _))))
        refine wpQuiet_nil ?_
        rintro _ ⟨y, rfl⟩
        obtain ⟨z, hz⟩ := unhide HG y
        rw [hz]
        clear hz
        go_wp2
        go_roundw
        case rel => exact ⟨j + 1, z, by omega, by go_num, (fun k hk => by rcases Nat.lt_succ_iff_lt_or_eq.1 hk with h | h; exact hin.out k h; subst h; exact unhide HI), rfl⟩
        case measure => simp [intOf]; omega
    · have hkk : j = bs.length + 1 := by omega
      subst hkk
      have HE := hide (leaves_all (unhide HK) fun k hk => hin.out k (by omega))
      go_wp2
      go_ret
      exact ⟨ret_int (unhide HE).symm, unhide HB x⟩

theorem specLeaves_any (a1 a2 a3 : Option Addr) (l1 c1 l2 c2 l3 c3 : Nat) (ms fs gs : List Int) (dm dq : Int) (tb toff tl tc pb poff pl pc : Nat) (ts bs : List (Int × Int)) (w : World) (h1 : Row w a1 l1 ms) (h2 : Row w a2 l2 fs) (h3 : Row w a3 l3 gs) (hr : Row2 w (some ⟨tb, toff, none⟩) tl ts) (hb : Row2 w (some ⟨pb, poff, none⟩) pl bs) (hcap : pl ≤ pc) :
    Calls Try.prog 28 #[.agg #[.slice a1 l1 c1, .slice a2 l2 c2, .slice a3 l3 c3], .agg #[.int .i64 dm, .int .i64 dq], .slice (some ⟨tb, toff, none⟩) tl tc, .slice (some ⟨pb, poff, none⟩) pl pc] w fun e w' => e = .returned (.int .i64 (leavesV ms fs gs dm dq ts bs)) ∧ Below w.heap.size w w' := by
  cases h : leavesOk ms fs gs dm dq ts bs
  · rw [leaves_bad h]; exact specLeaves_bad a1 a2 a3 l1 c1 l2 c2 l3 c3 ms fs gs dm dq tb toff tl tc pb poff pl pc ts bs w h1 h2 h3 hr hb h
  · exact specLeaves_good a1 a2 a3 l1 c1 l2 c2 l3 c3 ms fs gs dm dq tb toff tl tc pb poff pl pc ts bs w h1 h2 h3 hr hb hcap h

end Go.Proofs.Ytbaocifpifbldaj
