/-
  What the functions on an air answer: the law's copy, size and comparison of an air, and the test of an air in the model and in the program: the same test at every air; nothing that was there is written.
-/
import Derived.Test.YtbaocifpifbldaiMake
namespace Go.Proofs.Ytbaocifpifbldai
open Go.RowKit

/-- The tests of an air, in the model's order. -/
def airB (b : Int) (ss ts : List Int) : Bool := inB b (-100) 100 && inB ss.length 1 6 && ((ss.length : Int) == (ts.length : Int)) && riseB ts && allB ts 1 1000 && allB ss (-20) 20

theorem airB_impl (b : Int) (ss ts : List Int) : airB b ss ts = (inB b (-100) 100 && inB ts.length 1 6 && ((ss.length : Int) == (ts.length : Int)) && allB ss (-20) 20 && riseB ts && allB ts 1 1000) := by
  unfold airB
  by_cases h : (ss.length : Int) = (ts.length : Int)
  · rw [h]; generalize inB b _ _ = a; generalize inB _ _ _ = c; generalize riseB _ = d; generalize allB ts _ _ = e; generalize allB ss _ _ = f
    cases a <;> cases c <;> cases d <;> cases e <;> cases f <;> simp
  · have h' : ((ss.length : Int) == (ts.length : Int)) = false := by simpa using h
    rw [h']; simp

set_option maxHeartbeats 1000000 in
theorem specAirOk_any (b : Int) (a1 a2 : Option Addr) (l1 c1 l2 c2 : Nat) (xs ys : List Int) (w : World) (h1 : Row w a1 l1 xs) (h2 : Row w a2 l2 ys) :
    Calls Try.prog 18 #[.agg #[.int .i64 b, .slice a1 l1 c1, .slice a2 l2 c2]] w fun e w' => e = .returned (.bool (airB b xs ys)) ∧ Below w.heap.size w w' := by
  have H1 := hide (h1.alloc (.cells #[.int .i64 b, .slice a1 l1 c1, .slice a2 l2 c2] 42))
  have H2 := hide (h2.alloc (.cells #[.int .i64 b, .slice a1 l1 c1, .slice a2 l2 c2] 42))
  have hl1 := h1.len_eq
  have hl2 := h2.len_eq
  subst hl1
  subst hl2
  clear h1 h2
  rcases six (inB b (-100) 100) (inB xs.length 1 6) ((xs.length : Int) == (ys.length : Int)) (riseB ys) (allB ys 1 1000) (allB xs (-20) 20) with ⟨h, hv⟩ | ⟨h, h', hv⟩ | ⟨h, h', h'', hv⟩ | ⟨h, h', h'', h3, hv⟩ | ⟨h, h', h'', h3, h4, hv⟩ | ⟨h, h', h'', h3, h4, h5, hv⟩ | ⟨h, h', h'', h3, h4, h5, hv⟩
  all_goals
    have HE := hide hv
    clear hv
    go_enter Try.func18, Try.ntmps18
    go_wp2_with (first
      | (go_at_call 34; refine (l1In_any _ _ _ _).mono ?_; rintro e w' ⟨rfl, rfl⟩)
      | (go_at_call 35; refine (l1Rise_any _ _ _ ys _ (by first | exact unhide H2 | exact (unhide H2).drewN _)).mono ?_; rintro e w' ⟨rfl, n, rfl⟩)
      | (go_at_call_of 36 (Value.slice a1 xs.length c1); refine (l1All_any _ _ _ xs _ _ _ (by first | exact unhide H1 | exact (unhide H1).drewN _)).mono ?_; rintro e w' ⟨rfl, n, rfl⟩)
      | (go_at_call_of 36 (Value.slice a2 ys.length c2); refine (l1All_any _ _ _ ys _ _ _ (by first | exact unhide H2 | exact (unhide H2).drewN _)).mono ?_; rintro e w' ⟨rfl, n, rfl⟩))
    go_ret
    exact ⟨ret_bool (unhide HE).symm, by first | exact bel1 _ | exact bel1d _ _⟩

set_option maxHeartbeats 1000000 in
theorem implAirOk_any (b : Int) (a1 a2 : Option Addr) (l1 c1 l2 c2 : Nat) (xs ys : List Int) (w : World) (h1 : Row w a1 l1 xs) (h2 : Row w a2 l2 ys) :
    Calls Try.prog 20 #[.agg #[.int .i64 b, .slice a1 l1 c1, .slice a2 l2 c2]] w fun e w' => e = .returned (.bool (airB b xs ys)) ∧ Below w.heap.size w w' := by
  have H1 := hide (h1.alloc (.cells #[.int .i64 b, .slice a1 l1 c1, .slice a2 l2 c2] 42))
  have H2 := hide (h2.alloc (.cells #[.int .i64 b, .slice a1 l1 c1, .slice a2 l2 c2] 42))
  have hl1 := h1.len_eq
  have hl2 := h2.len_eq
  subst hl1
  subst hl2
  clear h1 h2
  rcases six (inB b (-100) 100) (inB ys.length 1 6) ((xs.length : Int) == (ys.length : Int)) (allB xs (-20) 20) (riseB ys) (allB ys 1 1000) with ⟨h, hv⟩ | ⟨h, h', hv⟩ | ⟨h, h', h'', hv⟩ | ⟨h, h', h'', h3, hv⟩ | ⟨h, h', h'', h3, h4, hv⟩ | ⟨h, h', h'', h3, h4, h5, hv⟩ | ⟨h, h', h'', h3, h4, h5, hv⟩
  all_goals
    have HE := hide ((airB_impl b xs ys).trans hv)
    clear hv
    go_enter Try.func20, Try.ntmps20
    go_wp2_with (first
      | (go_at_call 50; refine (within_any _ _ _ _).mono ?_; rintro e w' ⟨rfl, rfl⟩)
      | (go_at_call 51; refine (ascending_any _ _ _ ys _ (by first | exact unhide H2 | exact (unhide H2).drewN _)).mono ?_; rintro e w' ⟨rfl, n, rfl⟩)
      | (go_at_call_of 40 (Value.slice a1 xs.length c1); refine (allWithin_any _ _ _ xs _ _ _ (by first | exact unhide H1 | exact (unhide H1).drewN _)).mono ?_; rintro e w' ⟨rfl, n, rfl⟩)
      | (go_at_call_of 40 (Value.slice a2 ys.length c2); refine (allWithin_any _ _ _ ys _ _ _ (by first | exact unhide H2 | exact (unhide H2).drewN _)).mono ?_; rintro e w' ⟨rfl, n, rfl⟩))
    go_ret
    exact ⟨ret_bool (unhide HE).symm, by first | exact bel1 _ | exact bel1d _ _⟩

set_option maxHeartbeats 1000000 in
theorem szAir_any (b : Int) (a1 a2 : Option Addr) (l1 c1 l2 c2 : Nat) (w : World) (h1 : l1 ≤ 9223372036854775807) (h2 : l2 ≤ 9223372036854775807) :
    Calls Try.prog 17 #[.agg #[.int .i64 b, .slice a1 l1 c1, .slice a2 l2 c2], .int .i64 1048576] w fun e w' => (∃ r : Int, e = .returned (.int .i64 r) ∧ (r < 0 ∨ (0 ≤ r ∧ l1 ≤ 1048576 ∧ l2 ≤ 1048576))) ∧ Below w.heap.size w w' := by
  by_cases g1 : (1048576 : Int) < l1
  · go_enter Try.func17, Try.ntmps17
    go_wp2_with fail
    refine (szIntS_no _ _ _ _ _ (by omega) (by omega) (by omega) (by omega)).mono ?_
    rintro e w' ⟨rfl, rfl⟩
    go_wp2_with fail
    go_ret
    exact ⟨⟨_, rfl, by omega⟩, bel1 _⟩
  · go_enter Try.func17, Try.ntmps17
    go_wp2_with fail
    refine (szIntS_yes _ _ _ _ _ (by omega) (by omega)).mono ?_
    rintro e w' ⟨rfl, rfl⟩
    go_wp2_with fail
    by_cases g2 : (1048576 : Int) - l1 < l2
    · refine (szIntS_no _ _ _ _ _ (by omega) (by omega) (by omega) (by omega)).mono ?_
      rintro e w' ⟨rfl, rfl⟩
      go_wp2_with fail
      go_ret
      exact ⟨⟨_, rfl, by omega⟩, bel1 _⟩
    · refine (szIntS_yes _ _ _ _ _ (by omega) (by omega)).mono ?_
      rintro e w' ⟨rfl, rfl⟩
      go_wp2_with fail
      go_ret
      exact ⟨⟨_, rfl, by omega⟩, bel1 _⟩

set_option maxHeartbeats 1000000 in
theorem eqAir_any (b : Int) (a1 a2 b1 b2 : Option Addr) (l1 c1 l2 c2 k1 d1 k2 d2 : Nat) (xs ys : List Int) (w : World) (h1 : Row w a1 l1 xs) (h2 : Row w a2 l2 ys) (h3 : Row w b1 k1 xs) (h4 : Row w b2 k2 ys) :
    Calls Try.prog 21 #[.agg #[.int .i64 b, .slice a1 l1 c1, .slice a2 l2 c2], .agg #[.int .i64 b, .slice b1 k1 d1, .slice b2 k2 d2]] w fun e w' => e = .returned (.bool true) ∧ Below w.heap.size w w' := by
  have H1 := hide ((h1.alloc (.cells #[.int .i64 b, .slice a1 l1 c1, .slice a2 l2 c2] 42)).alloc (.cells #[.int .i64 b, .slice b1 k1 d1, .slice b2 k2 d2] 42))
  have H2 := hide ((h2.alloc (.cells #[.int .i64 b, .slice a1 l1 c1, .slice a2 l2 c2] 42)).alloc (.cells #[.int .i64 b, .slice b1 k1 d1, .slice b2 k2 d2] 42))
  have H3 := hide ((h3.alloc (.cells #[.int .i64 b, .slice a1 l1 c1, .slice a2 l2 c2] 42)).alloc (.cells #[.int .i64 b, .slice b1 k1 d1, .slice b2 k2 d2] 42))
  have H4 := hide ((h4.alloc (.cells #[.int .i64 b, .slice a1 l1 c1, .slice a2 l2 c2] 42)).alloc (.cells #[.int .i64 b, .slice b1 k1 d1, .slice b2 k2 d2] 42))
  clear h1 h2 h3 h4
  have e1 := eqB_refl xs
  have e2 := eqB_refl ys
  have e3 : (b != b) = false := by simp
  go_enter Try.func21, Try.ntmps21
  go_wp2_with fail
  refine (eqIntS_any _ _ _ _ _ _ xs xs _ (unhide H1) (unhide H3)).mono ?_
  rintro e w' ⟨rfl, n, rfl⟩
  go_wp2_with fail
  refine (eqIntS_any _ _ _ _ _ _ ys ys _ ((unhide H2).drewN _) ((unhide H4).drewN _)).mono ?_
  rintro e w' ⟨rfl, n, rfl⟩
  go_wp2_with fail
  go_ret
  exact ⟨rfl, bel2d _ _ _⟩

set_option maxHeartbeats 1000000 in
theorem toAir_any (b : Int) (a1 a2 : Option Addr) (l1 c1 l2 c2 : Nat) (xs ys : List Int) (w : World) (h1 : Row w a1 l1 xs) (h2 : Row w a2 l2 ys) (hl1 : l1 ≤ 1048576) (hl2 : l2 ≤ 1048576) :
    Calls Try.prog 19 #[.agg #[.int .i64 b, .slice a1 l1 c1, .slice a2 l2 c2]] w fun e w' => ∃ g1 g2 : Nat, e = .returned (.agg #[.int .i64 b, .slice (some ⟨g1, 0, none⟩) l1 l1, .slice (some ⟨g2, 0, none⟩) l2 l2]) ∧ Row w' (some ⟨g1, 0, none⟩) l1 xs ∧ Row w' (some ⟨g2, 0, none⟩) l2 ys ∧ Below w.heap.size w w' := by
  have B0 := hide (bel3 (w := w) (.cells #[.int .i64 b, .slice a1 l1 c1, .slice a2 l2 c2] 39) (.cells #[.int .i64 0, .slice none 0 0, .slice none 0 0] 42) (.cells #[.int .i64 b, .slice none 0 0, .slice none 0 0] 42))
  have R2 := hide h2
  have R1 := hide (h1.below (unhide B0))
  clear h1 h2
  go_enter Try.func19, Try.ntmps19
  go_wp2_with fail
  refine (toIntS_any _ _ _ xs _ (unhide R1) hl1).mono ?_
  rintro e w1 ⟨rfl, r1, b1⟩
  have B1 := hide ((unhide B0).trans (b1.mono (by simp; omega)))
  have hs1 : w.heap.size + 3 ≤ w1.heap.size := by have := b1.size; simp at this; omega
  obtain ⟨hc, hf⟩ := bcell b1
  simp only [World.alloc, Array.size_push] at r1
  have R3 := hide r1
  clear b1 r1
  go_wp2_with fail
  refine (toIntS_any _ _ _ ys _ ((unhide R2).below ((unhide B1).setCell (by simp; omega) _)) hl2).mono ?_
  rintro e w2 ⟨rfl, r2, b2⟩
  have R4 := hide (((unhide R3).setCell (p := ⟨w.heap.size + 1 + 1, 1, none⟩) (by simp) (Value.slice (some ⟨w.heap.size + 1 + 1 + 1, 0, none⟩) l1 l1)).below b2)
  have B2 := hide (((unhide B1).setCell (p := ⟨w.heap.size + 1 + 1, 1, none⟩) (by simp; omega) _).trans (b2.mono (by simp; omega)))
  have hs2 : w1.heap.size ≤ w2.heap.size := by have := b2.size; simp at this; omega
  obtain ⟨hc2, hf2⟩ := bcell b2
  have e0 := hc2 (w.heap.size + 1 + 1) 0 (by simp; omega)
  have e1 := hc2 (w.heap.size + 1 + 1) 1 (by simp; omega)
  have e2 := hc2 (w.heap.size + 1 + 1) 2 (by simp; omega)
  have e3 := hc2 (w.heap.size + 1) 0 (by simp; omega)
  have e4 := hc2 (w.heap.size + 1) 1 (by simp; omega)
  have e5 := hc2 (w.heap.size + 1) 2 (by simp; omega)
  have f0 := hf2 (w.heap.size + 1 + 1) 0 (by simp; omega)
  have f1 := hf2 (w.heap.size + 1 + 1) 1 (by simp; omega)
  have f2 := hf2 (w.heap.size + 1 + 1) 2 (by simp; omega)
  have f3 := hf2 (w.heap.size + 1) 0 (by simp; omega)
  have f4 := hf2 (w.heap.size + 1) 1 (by simp; omega)
  have f5 := hf2 (w.heap.size + 1) 2 (by simp; omega)
  simp only [World.setCell, Array.size_modify] at r2
  have R5 := hide r2
  clear b2 r2 hc2 hf2
  go_wp2_with fail
  refine bodyPost_ret (v := .agg #[.int .i64 b, .slice (some ⟨w.heap.size + 1 + 1 + 1, 0, none⟩) l1 l1, .slice (some ⟨w1.heap.size, 0, none⟩) l2 l2]) (by simp [results, Try.results19, go_sem, *]) rfl ⟨w.heap.size + 1 + 1 + 1, w1.heap.size, rfl, ?_, ?_, ?_⟩
  · repeat (first | exact unhide R4 | refine Row.setCell ?_ (by simp; try omega) _)
  · repeat (first | exact unhide R5 | refine Row.setCell ?_ (by simp; try omega) _)
  · repeat (first | exact unhide B2 | refine Below.setCell ?_ (by simp; try omega) _)

end Go.Proofs.Ytbaocifpifbldai
