/-
  What the functions on a curve answer: the law's copy, size and comparison of a curve, and the test of a curve in the model and in the program: the same test at every curve; nothing that was there is written.
-/
import Derived.Test.YtbaocifpifbldahMake
namespace Go.Proofs.Ytbaocifpifbldah
open Go.RowKit

set_option maxHeartbeats 1000000 in
theorem specCurveOk_any (a1 a2 : Option Addr) (l1 c1 l2 c2 : Nat) (xs ys : List Int) (w : World) (h1 : Row w a1 l1 xs) (h2 : Row w a2 l2 ys) :
    Calls Try.prog 8 #[.agg #[.slice a1 l1 c1, .slice a2 l2 c2]] w fun e w' => e = .returned (.bool (curveB xs ys)) ∧ Below w.heap.size w w' := by
  have H1 := hide (h1.alloc (.cells #[.slice a1 l1 c1, .slice a2 l2 c2] 27))
  have H2 := hide (h2.alloc (.cells #[.slice a1 l1 c1, .slice a2 l2 c2] 27))
  have hl1 := h1.len_eq
  have hl2 := h2.len_eq
  subst hl1
  subst hl2
  clear h1 h2
  rcases five (inB xs.length 2 20) ((xs.length : Int) == (ys.length : Int)) (riseB xs) (allB xs (-100000) 100000) (allB ys (-100000) 100000) with ⟨h, hv⟩ | ⟨h, h', hv⟩ | ⟨h, h', h'', hv⟩ | ⟨h, h', h'', h3, hv⟩ | ⟨h, h', h'', h3, h4, hv⟩ | ⟨h, h', h'', h3, h4, hv⟩
  all_goals
    have HE := hide hv
    clear hv
    go_enter Try.func8, Try.ntmps8
    go_wp2_with (first
      | (go_at_call 20; refine (l1In_any _ _ _ _).mono ?_; rintro e w' ⟨rfl, rfl⟩)
      | (go_at_call 21; refine (l1Rise_any _ _ _ xs _ (by first | exact unhide H1 | exact (unhide H1).drewN _)).mono ?_; rintro e w' ⟨rfl, n, rfl⟩)
      | (go_at_call_of 22 (Value.slice a1 xs.length c1); refine (l1All_any _ _ _ xs _ _ _ (by first | exact unhide H1 | exact (unhide H1).drewN _)).mono ?_; rintro e w' ⟨rfl, n, rfl⟩)
      | (go_at_call_of 22 (Value.slice a2 ys.length c2); refine (l1All_any _ _ _ ys _ _ _ (by first | exact unhide H2 | exact (unhide H2).drewN _)).mono ?_; rintro e w' ⟨rfl, n, rfl⟩))
    go_ret
    exact ⟨ret_bool (unhide HE).symm, by first | exact bel1 _ | exact bel1d _ _⟩


set_option maxHeartbeats 1000000 in
theorem axisOk_any (a1 : Option Addr) (l1 c1 : Nat) (xs : List Int) (b : Int) (w : World) (h1 : Row w a1 l1 xs) (hb0 : 0 ≤ b) (hb1 : b ≤ 1000000) :
    Calls Try.prog 24 #[.slice a1 l1 c1, .int .i64 b] w fun e w' => e = .returned (.bool (axisB xs b)) ∧ ∃ n, w' = w.drewN n := by
  have H1 := hide h1
  have hl1 := h1.len_eq
  subst hl1
  clear h1
  rcases three (inB xs.length 2 20) (riseB xs) (allB xs (-b) b) with ⟨h, hv⟩ | ⟨h, h', hv⟩ | ⟨h, h', h'', hv⟩ | ⟨h, h', h'', hv⟩
  all_goals
    have HE := hide hv
    clear hv
    go_enter Try.func24, Try.ntmps24
    go_wp2_with (first
      | (go_at_call 37; refine (within_any _ _ _ _).mono ?_; rintro e w' ⟨rfl, rfl⟩)
      | (go_at_call 38; refine (ascending_any _ _ _ xs _ (by first | exact unhide H1 | exact (unhide H1).drewN _)).mono ?_; rintro e w' ⟨rfl, n, rfl⟩)
      | (go_at_call 25; refine (allWithin_any _ _ _ xs _ _ _ (by first | exact unhide H1 | exact (unhide H1).drewN _)).mono ?_; rintro e w' ⟨rfl, n, rfl⟩))
    go_ret
    exact ⟨ret_bool (unhide HE).symm, by first | exact ⟨0, rfl⟩ | exact ⟨_, rfl⟩⟩

set_option maxHeartbeats 1000000 in
theorem implCurveOk_any (a1 a2 : Option Addr) (l1 c1 l2 c2 : Nat) (xs ys : List Int) (w : World) (h1 : Row w a1 l1 xs) (h2 : Row w a2 l2 ys) :
    Calls Try.prog 10 #[.agg #[.slice a1 l1 c1, .slice a2 l2 c2]] w fun e w' => e = .returned (.bool (curveB xs ys)) ∧ Below w.heap.size w w' := by
  have H1 := hide (h1.alloc (.cells #[.slice a1 l1 c1, .slice a2 l2 c2] 27))
  have H2 := hide (h2.alloc (.cells #[.slice a1 l1 c1, .slice a2 l2 c2] 27))
  have hl1 := h1.len_eq
  have hl2 := h2.len_eq
  subst hl1
  subst hl2
  clear h1 h2
  rcases three ((xs.length : Int) == (ys.length : Int)) (axisB xs 100000) (allB ys (-100000) 100000) with ⟨h, hv⟩ | ⟨h, h', hv⟩ | ⟨h, h', h'', hv⟩ | ⟨h, h', h'', hv⟩
  all_goals
    have HE := hide ((curveB_axis xs ys).trans hv)
    clear hv
    go_enter Try.func10, Try.ntmps10
    go_wp2_with (first
      | (go_at_call 24; refine (axisOk_any _ _ _ xs _ _ (by first | exact unhide H1 | exact (unhide H1).drewN _) (by decide) (by decide)).mono ?_; rintro e w' ⟨rfl, n, rfl⟩)
      | (go_at_call 25; refine (allWithin_any _ _ _ ys _ _ _ (by first | exact unhide H2 | exact (unhide H2).drewN _)).mono ?_; rintro e w' ⟨rfl, n, rfl⟩))
    go_ret
    exact ⟨ret_bool (unhide HE).symm, by first | exact bel1 _ | exact bel1d _ _⟩

set_option maxHeartbeats 1000000 in
theorem szCurve_any (a1 a2 : Option Addr) (l1 c1 l2 c2 : Nat) (w : World) (h1 : l1 ≤ 9223372036854775807) (h2 : l2 ≤ 9223372036854775807) :
    Calls Try.prog 7 #[.agg #[.slice a1 l1 c1, .slice a2 l2 c2], .int .i64 1048576] w fun e w' => (∃ r : Int, e = .returned (.int .i64 r) ∧ (r < 0 ∨ (0 ≤ r ∧ l1 ≤ 1048576 ∧ l2 ≤ 1048576))) ∧ Below w.heap.size w w' := by
  by_cases g1 : (1048576 : Int) < l1
  · go_enter Try.func7, Try.ntmps7
    go_wp2_with fail
    refine (szIntS_no _ _ _ _ _ (by omega) (by omega) (by omega) (by omega)).mono ?_
    rintro e w' ⟨rfl, rfl⟩
    go_wp2_with fail
    go_ret
    exact ⟨⟨_, rfl, by omega⟩, bel1 _⟩
  · go_enter Try.func7, Try.ntmps7
    go_wp2_with fail
    refine (szIntS_yes _ _ _ _ _ (by omega) (by omega)).mono ?_
    rintro e w' ⟨rfl, rfl⟩
    go_wp2_with fail
    by_cases g2 : (1048576 : Int) - l1 < l2
    · refine (szIntS_no _ _ _ _ _ (by omega) (by omega) (by omega) (by omega)).mono ?_
      rintro e w' ⟨rfl, rfl⟩
      go_wp2_with fail
      go_ret
      exact ⟨⟨_, rfl, by omega⟩, bel1 _⟩
    · refine (szIntS_yes _ _ _ _ _ (by omega) (by omega)).mono ?_
      rintro e w' ⟨rfl, rfl⟩
      go_wp2_with fail
      go_ret
      exact ⟨⟨_, rfl, by omega⟩, bel1 _⟩

set_option maxHeartbeats 1000000 in
theorem eqCurve_any (a1 a2 b1 b2 : Option Addr) (l1 c1 l2 c2 k1 d1 k2 d2 : Nat) (xs ys us vs : List Int) (w : World) (h1 : Row w a1 l1 xs) (h2 : Row w a2 l2 ys) (h3 : Row w b1 k1 us) (h4 : Row w b2 k2 vs) :
    Calls Try.prog 11 #[.agg #[.slice a1 l1 c1, .slice a2 l2 c2], .agg #[.slice b1 k1 d1, .slice b2 k2 d2]] w fun e w' => e = .returned (.bool (eqB xs us && eqB ys vs)) ∧ Below w.heap.size w w' := by
  have H1 := hide ((h1.alloc (.cells #[.slice a1 l1 c1, .slice a2 l2 c2] 27)).alloc (.cells #[.slice b1 k1 d1, .slice b2 k2 d2] 27))
  have H2 := hide ((h2.alloc (.cells #[.slice a1 l1 c1, .slice a2 l2 c2] 27)).alloc (.cells #[.slice b1 k1 d1, .slice b2 k2 d2] 27))
  have H3 := hide ((h3.alloc (.cells #[.slice a1 l1 c1, .slice a2 l2 c2] 27)).alloc (.cells #[.slice b1 k1 d1, .slice b2 k2 d2] 27))
  have H4 := hide ((h4.alloc (.cells #[.slice a1 l1 c1, .slice a2 l2 c2] 27)).alloc (.cells #[.slice b1 k1 d1, .slice b2 k2 d2] 27))
  clear h1 h2 h3 h4
  cases e1 : eqB xs us <;> cases e2 : eqB ys vs
  all_goals
    go_enter Try.func11, Try.ntmps11
    go_wp2_with fail
    refine (eqIntS_any _ _ _ _ _ _ xs us _ (unhide H1) (unhide H3)).mono ?_
    rintro e w' ⟨rfl, n, rfl⟩
    go_wp2_with fail
    first
      | (refine (eqIntS_any _ _ _ _ _ _ ys vs _ ((unhide H2).drewN _) ((unhide H4).drewN _)).mono ?_
         rintro e w' ⟨rfl, n, rfl⟩
         go_wp2_with fail
         go_ret)
      | go_ret
    exact ⟨rfl, by first | exact bel2d _ _ _ | exact bel2 _ _⟩

theorem eqCurve_same (a1 a2 b1 b2 : Option Addr) (l1 c1 l2 c2 k1 d1 k2 d2 : Nat) (xs ys : List Int) (w : World) (h1 : Row w a1 l1 xs) (h2 : Row w a2 l2 ys) (h3 : Row w b1 k1 xs) (h4 : Row w b2 k2 ys) :
    Calls Try.prog 11 #[.agg #[.slice a1 l1 c1, .slice a2 l2 c2], .agg #[.slice b1 k1 d1, .slice b2 k2 d2]] w fun e w' => e = .returned (.bool true) ∧ Below w.heap.size w w' := by
  refine (eqCurve_any a1 a2 b1 b2 l1 c1 l2 c2 k1 d1 k2 d2 xs ys xs ys w h1 h2 h3 h4).mono ?_
  rintro e w' ⟨rfl, b⟩
  exact ⟨ret_bool (by rw [eqB_refl, eqB_refl]; rfl), b⟩

set_option maxHeartbeats 1000000 in
theorem toCurve_any (a1 a2 : Option Addr) (l1 c1 l2 c2 : Nat) (xs ys : List Int) (w : World) (h1 : Row w a1 l1 xs) (h2 : Row w a2 l2 ys) (hl1 : l1 ≤ 1048576) (hl2 : l2 ≤ 1048576) :
    Calls Try.prog 9 #[.agg #[.slice a1 l1 c1, .slice a2 l2 c2]] w fun e w' => ∃ g1 g2 : Nat, e = .returned (.agg #[.slice (some ⟨g1, 0, none⟩) l1 l1, .slice (some ⟨g2, 0, none⟩) l2 l2]) ∧ Row w' (some ⟨g1, 0, none⟩) l1 xs ∧ Row w' (some ⟨g2, 0, none⟩) l2 ys ∧ Below w.heap.size w w' := by
  have B0 := hide (bel3 (w := w) (.cells #[.slice a1 l1 c1, .slice a2 l2 c2] 24) (.cells #[.slice none 0 0, .slice none 0 0] 27) (.cells #[.slice none 0 0, .slice none 0 0] 27))
  have R2 := hide h2
  have R1 := hide (h1.below (unhide B0))
  clear h1 h2
  go_enter Try.func9, Try.ntmps9
  go_wp2_with fail
  refine (toIntS_any _ _ _ xs _ (unhide R1) hl1).mono ?_
  rintro e w1 ⟨rfl, r1, b1⟩
  have B1 := hide ((unhide B0).trans (b1.mono (by simp; omega)))
  have hs1 : w.heap.size + 3 ≤ w1.heap.size := by have := b1.size; simp at this; omega
  obtain ⟨hc, hf⟩ := bcell b1
  simp only [World.alloc, Array.size_push] at r1
  have R3 := hide r1
  clear b1 r1
  go_wp2_with fail
  refine (toIntS_any _ _ _ ys _ ((unhide R2).below ((unhide B1).setCell (by simp; omega) _)) hl2).mono ?_
  rintro e w2 ⟨rfl, r2, b2⟩
  have R4 := hide (((unhide R3).setCell (p := ⟨w.heap.size + 1 + 1, 0, none⟩) (by simp) (Value.slice (some ⟨w.heap.size + 1 + 1 + 1, 0, none⟩) l1 l1)).below b2)
  have B2 := hide (((unhide B1).setCell (p := ⟨w.heap.size + 1 + 1, 0, none⟩) (by simp; omega) _).trans (b2.mono (by simp; omega)))
  have hs2 : w1.heap.size ≤ w2.heap.size := by have := b2.size; simp at this; omega
  obtain ⟨hc2, hf2⟩ := bcell b2
  have e0 := hc2 (w.heap.size + 1 + 1) 0 (by simp; omega)
  have e1 := hc2 (w.heap.size + 1 + 1) 1 (by simp; omega)
  have e2 := hc2 (w.heap.size + 1) 0 (by simp; omega)
  have e3 := hc2 (w.heap.size + 1) 1 (by simp; omega)
  have f0 := hf2 (w.heap.size + 1 + 1) 0 (by simp; omega)
  have f1 := hf2 (w.heap.size + 1 + 1) 1 (by simp; omega)
  have f2 := hf2 (w.heap.size + 1) 0 (by simp; omega)
  have f3 := hf2 (w.heap.size + 1) 1 (by simp; omega)
  simp only [World.setCell, Array.size_modify] at r2
  have R5 := hide r2
  clear b2 r2 hc2 hf2
  go_wp2_with fail
  refine bodyPost_ret (v := .agg #[.slice (some ⟨w.heap.size + 1 + 1 + 1, 0, none⟩) l1 l1, .slice (some ⟨w1.heap.size, 0, none⟩) l2 l2]) (by simp [results, Try.results9, go_sem, *]) rfl ⟨w.heap.size + 1 + 1 + 1, w1.heap.size, rfl, ?_, ?_, ?_⟩
  · repeat (first | exact unhide R4 | refine Row.setCell ?_ (by simp; try omega) _)
  · repeat (first | exact unhide R5 | refine Row.setCell ?_ (by simp; try omega) _)
  · repeat (first | exact unhide B2 | refine Below.setCell ?_ (by simp; try omega) _)

theorem specCurveOk_is {c : Bool} (a1 a2 : Option Addr) (l1 c1 l2 c2 : Nat) (xs ys : List Int) (w : World) (hc : curveB xs ys = c) (h1 : Row w a1 l1 xs) (h2 : Row w a2 l2 ys) :
    Calls Try.prog 8 #[.agg #[.slice a1 l1 c1, .slice a2 l2 c2]] w fun e w' => e = .returned (.bool c) ∧ Below w.heap.size w w' := by
  subst hc; exact specCurveOk_any a1 a2 l1 c1 l2 c2 xs ys w h1 h2
theorem implCurveOk_is {c : Bool} (a1 a2 : Option Addr) (l1 c1 l2 c2 : Nat) (xs ys : List Int) (w : World) (hc : curveB xs ys = c) (h1 : Row w a1 l1 xs) (h2 : Row w a2 l2 ys) :
    Calls Try.prog 10 #[.agg #[.slice a1 l1 c1, .slice a2 l2 c2]] w fun e w' => e = .returned (.bool c) ∧ Below w.heap.size w w' := by
  subst hc; exact implCurveOk_any a1 a2 l1 c1 l2 c2 xs ys w h1 h2

end Go.Proofs.Ytbaocifpifbldah
