/-
  The law's size, comparison and copy of an envelope. The copy at envelopes of bounded lists; nothing that was there is written.
-/
import Derived.Test.YtbaocifpifbldajMake
namespace Go.Proofs.Ytbaocifpifbldaj
open Go.RowKit

set_option maxHeartbeats 1000000 in
theorem szEnvelope_any (a1 a2 a3 : Option Addr) (l1 c1 l2 c2 l3 c3 : Nat) (w : World) (h1 : l1 ≤ 9223372036854775807) (h2 : l2 ≤ 9223372036854775807) (h3 : l3 ≤ 9223372036854775807) :
    Calls Try.prog 9 #[.agg #[.slice a1 l1 c1, .slice a2 l2 c2, .slice a3 l3 c3], .int .i64 1048576] w fun e w' => (∃ r : Int, e = .returned (.int .i64 r) ∧ (r < 0 ∨ (0 ≤ r ∧ r ≤ 1048576 ∧ l1 ≤ 1048576 ∧ l2 ≤ 1048576 ∧ l3 ≤ 1048576))) ∧ Below w.heap.size w w' := by
  by_cases g1 : (1048576 : Int) < l1
  · go_enter Try.func9, Try.ntmps9
    go_wp2_with fail
    refine (szIntS_no _ _ _ _ _ (by omega) (by omega) (by omega) (by omega)).mono ?_
    rintro e w' ⟨rfl, rfl⟩
    go_wp2_with fail
    go_ret
    exact ⟨⟨_, rfl, .inl (by omega)⟩, bel1 _⟩
  · go_enter Try.func9, Try.ntmps9
    go_wp2_with fail
    refine (szIntS_yes _ _ _ _ _ (by omega) (by omega)).mono ?_
    rintro e w' ⟨rfl, rfl⟩
    go_wp2_with fail
    by_cases g2 : (1048576 : Int) - l1 < l2
    · refine (szIntS_no _ _ _ _ _ (by omega) (by omega) (by omega) (by omega)).mono ?_
      rintro e w' ⟨rfl, rfl⟩
      go_wp2_with fail
      go_ret
      exact ⟨⟨_, rfl, .inl (by omega)⟩, bel1 _⟩
    · refine (szIntS_yes _ _ _ _ _ (by omega) (by omega)).mono ?_
      rintro e w' ⟨rfl, rfl⟩
      go_wp2_with fail
      by_cases g3 : (1048576 : Int) - l1 - l2 < l3
      · refine (szIntS_no _ _ _ _ _ (by omega) (by omega) (by omega) (by omega)).mono ?_
        rintro e w' ⟨rfl, rfl⟩
        go_wp2_with fail
        go_ret
        exact ⟨⟨_, rfl, .inl (by omega)⟩, bel1 _⟩
      · refine (szIntS_yes _ _ _ _ _ (by omega) (by omega)).mono ?_
        rintro e w' ⟨rfl, rfl⟩
        go_wp2_with fail
        go_ret
        exact ⟨⟨_, rfl, by omega⟩, bel1 _⟩

set_option maxHeartbeats 1000000 in
theorem eqEnvelope_same (a1 a2 a3 b1 b2 b3 : Option Addr) (l1 c1 l2 c2 l3 c3 k1 d1 k2 d2 k3 d3 : Nat) (xs ys zs : List Int) (w : World) (h1 : Row w a1 l1 xs) (h2 : Row w a2 l2 ys) (h3 : Row w a3 l3 zs) (h4 : Row w b1 k1 xs) (h5 : Row w b2 k2 ys) (h6 : Row w b3 k3 zs) :
    Calls Try.prog 13 #[.agg #[.slice a1 l1 c1, .slice a2 l2 c2, .slice a3 l3 c3], .agg #[.slice b1 k1 d1, .slice b2 k2 d2, .slice b3 k3 d3]] w fun e w' => e = .returned (.bool true) ∧ Below w.heap.size w w' := by
  have B0 := hide (bel2 (w := w) (.cells #[.slice a1 l1 c1, .slice a2 l2 c2, .slice a3 l3 c3] 27) (.cells #[.slice b1 k1 d1, .slice b2 k2 d2, .slice b3 k3 d3] 27))
  have H1 := hide (h1.below (unhide B0))
  have H2 := hide (h2.below (unhide B0))
  have H3 := hide (h3.below (unhide B0))
  have H4 := hide (h4.below (unhide B0))
  have H5 := hide (h5.below (unhide B0))
  have H6 := hide (h6.below (unhide B0))
  clear h1 h2 h3 h4 h5 h6
  have e1 := eqB_refl xs
  have e2 := eqB_refl ys
  have e3 := eqB_refl zs
  go_enter Try.func13, Try.ntmps13
  go_wp2_with fail
  refine (eqIntS_any _ _ _ _ _ _ xs xs _ (unhide H1) (unhide H4)).mono ?_
  rintro e w' ⟨rfl, n, rfl⟩
  go_wp2_with fail
  refine (eqIntS_any _ _ _ _ _ _ ys ys _ ((unhide H2).drewN _) ((unhide H5).drewN _)).mono ?_
  rintro e w' ⟨rfl, n, rfl⟩
  go_wp2_with fail
  refine (eqIntS_any _ _ _ _ _ _ zs zs _ ((unhide H3).drewN _) ((unhide H6).drewN _)).mono ?_
  rintro e w' ⟨rfl, n, rfl⟩
  go_wp2_with fail
  go_ret
  exact ⟨rfl, (unhide B0).trans (bel0d' _)⟩

set_option maxHeartbeats 2000000 in
theorem toEnvelope_any (a1 a2 a3 : Option Addr) (l1 c1 l2 c2 l3 c3 : Nat) (xs ys zs : List Int) (w : World) (h1 : Row w a1 l1 xs) (h2 : Row w a2 l2 ys) (h3 : Row w a3 l3 zs) (hl1 : l1 ≤ 1048576) (hl2 : l2 ≤ 1048576) (hl3 : l3 ≤ 1048576) :
    Calls Try.prog 11 #[.agg #[.slice a1 l1 c1, .slice a2 l2 c2, .slice a3 l3 c3]] w fun e w' => ∃ g1 g2 g3 : Nat, e = .returned (.agg #[.slice (some ⟨g1, 0, none⟩) l1 l1, .slice (some ⟨g2, 0, none⟩) l2 l2, .slice (some ⟨g3, 0, none⟩) l3 l3]) ∧ Row w' (some ⟨g1, 0, none⟩) l1 xs ∧ Row w' (some ⟨g2, 0, none⟩) l2 ys ∧ Row w' (some ⟨g3, 0, none⟩) l3 zs ∧ Below w.heap.size w w' := by
  have B0 := hide (bel3 (w := w) (.cells #[.slice a1 l1 c1, .slice a2 l2 c2, .slice a3 l3 c3] 24) (.cells #[.slice none 0 0, .slice none 0 0, .slice none 0 0] 27) (.cells #[.slice none 0 0, .slice none 0 0, .slice none 0 0] 27))
  have R3 := hide h3
  have R2 := hide h2
  have R1 := hide (h1.below (unhide B0))
  clear h1 h2 h3
  go_enter Try.func11, Try.ntmps11
  go_wp2_with fail
  refine (toIntS_any _ _ _ xs _ (unhide R1) hl1).mono ?_
  rintro e w1 ⟨rfl, r1, b1⟩
  have B1 := hide (((unhide B0).trans (b1.mono (by simp; omega))).setCell (p := ⟨w.heap.size + 1 + 1, 0, none⟩) (by simp; omega) (Value.slice (some ⟨w.heap.size + 1 + 1 + 1, 0, none⟩) l1 l1))
  have hs1 : w.heap.size + 3 ≤ w1.heap.size := by have := b1.size; simp at this; omega
  obtain ⟨hc, hf⟩ := bcell b1
  simp only [World.alloc, Array.size_push] at r1
  have Q1 := hide (r1.setCell (p := ⟨w.heap.size + 1 + 1, 0, none⟩) (by simp) (Value.slice (some ⟨w.heap.size + 1 + 1 + 1, 0, none⟩) l1 l1))
  clear b1 r1
  go_wp2_with fail
  refine (toIntS_any _ _ _ ys _ ((unhide R2).below (unhide B1)) hl2).mono ?_
  rintro e w2 ⟨rfl, r2, b2⟩
  have hs2 : w1.heap.size ≤ w2.heap.size := by have := b2.size; simp at this; omega
  have x2 : w2.cell? ⟨w.heap.size, 2, none⟩ = some (.slice a3 l3 c3) := (b2.cell (p := ⟨w.heap.size, 2, none⟩) (by simp; omega)).trans (by simp [hc, go_sem])
  have o0 : w2.cell? ⟨w.heap.size + 1 + 1, 0, none⟩ = some (Value.slice (some ⟨w.heap.size + 1 + 1 + 1, 0, none⟩) l1 l1) := (b2.cell (p := ⟨w.heap.size + 1 + 1, 0, none⟩) (by simp; omega)).trans (by simp [hc, go_sem])
  have o1 : w2.cell? ⟨w.heap.size + 1 + 1, 1, none⟩ = some (.slice none 0 0) := (b2.cell (p := ⟨w.heap.size + 1 + 1, 1, none⟩) (by simp; omega)).trans (by simp [hc, go_sem])
  have o2 : w2.cell? ⟨w.heap.size + 1 + 1, 2, none⟩ = some (.slice none 0 0) := (b2.cell (p := ⟨w.heap.size + 1 + 1, 2, none⟩) (by simp; omega)).trans (by simp [hc, go_sem])
  have p0 : w2.cell? ⟨w.heap.size + 1, 0, none⟩ = some (.slice none 0 0) := (b2.cell (p := ⟨w.heap.size + 1, 0, none⟩) (by simp; omega)).trans (by simp [hc, go_sem])
  have p1 : w2.cell? ⟨w.heap.size + 1, 1, none⟩ = some (.slice none 0 0) := (b2.cell (p := ⟨w.heap.size + 1, 1, none⟩) (by simp; omega)).trans (by simp [hc, go_sem])
  have p2 : w2.cell? ⟨w.heap.size + 1, 2, none⟩ = some (.slice none 0 0) := (b2.cell (p := ⟨w.heap.size + 1, 2, none⟩) (by simp; omega)).trans (by simp [hc, go_sem])
  have fo0 : w2.frozen? ⟨w.heap.size + 1 + 1, 0, none⟩ = false := (b2.frozen (p := ⟨w.heap.size + 1 + 1, 0, none⟩) (by simp; omega)).trans (by simp [hf, go_sem])
  have fo1 : w2.frozen? ⟨w.heap.size + 1 + 1, 1, none⟩ = false := (b2.frozen (p := ⟨w.heap.size + 1 + 1, 1, none⟩) (by simp; omega)).trans (by simp [hf, go_sem])
  have fo2 : w2.frozen? ⟨w.heap.size + 1 + 1, 2, none⟩ = false := (b2.frozen (p := ⟨w.heap.size + 1 + 1, 2, none⟩) (by simp; omega)).trans (by simp [hf, go_sem])
  have fp0 : w2.frozen? ⟨w.heap.size + 1, 0, none⟩ = false := (b2.frozen (p := ⟨w.heap.size + 1, 0, none⟩) (by simp; omega)).trans (by simp [hf, go_sem])
  have fp1 : w2.frozen? ⟨w.heap.size + 1, 1, none⟩ = false := (b2.frozen (p := ⟨w.heap.size + 1, 1, none⟩) (by simp; omega)).trans (by simp [hf, go_sem])
  have fp2 : w2.frozen? ⟨w.heap.size + 1, 2, none⟩ = false := (b2.frozen (p := ⟨w.heap.size + 1, 2, none⟩) (by simp; omega)).trans (by simp [hf, go_sem])
  have B2 := hide (((unhide B1).trans (b2.mono (by simp; omega))).setCell (p := ⟨w.heap.size + 1 + 1, 1, none⟩) (by simp; omega) (Value.slice (some ⟨w1.heap.size, 0, none⟩) l2 l2))
  simp only [World.setCell, Array.size_modify] at r2
  have Q2 := hide (r2.setCell (p := ⟨w.heap.size + 1 + 1, 1, none⟩) (by simp; omega) (Value.slice (some ⟨w1.heap.size, 0, none⟩) l2 l2))
  have Q1 := hide (((unhide Q1).below b2).setCell (p := ⟨w.heap.size + 1 + 1, 1, none⟩) (by simp) (Value.slice (some ⟨w1.heap.size, 0, none⟩) l2 l2))
  clear b2 r2 hc hf
  go_wp2_with fail
  refine (toIntS_any _ _ _ zs _ ((unhide R3).below (unhide B2)) hl3).mono ?_
  rintro e w3 ⟨rfl, r3, b3⟩
  have hs3 : w2.heap.size ≤ w3.heap.size := by have := b3.size; simp at this; omega
  have o0 : w3.cell? ⟨w.heap.size + 1 + 1, 0, none⟩ = some (Value.slice (some ⟨w.heap.size + 1 + 1 + 1, 0, none⟩) l1 l1) := (b3.cell (p := ⟨w.heap.size + 1 + 1, 0, none⟩) (by simp; omega)).trans (by simp [o0, go_sem])
  have o1 : w3.cell? ⟨w.heap.size + 1 + 1, 1, none⟩ = some (Value.slice (some ⟨w1.heap.size, 0, none⟩) l2 l2) := (b3.cell (p := ⟨w.heap.size + 1 + 1, 1, none⟩) (by simp; omega)).trans (by simp [o1, go_sem])
  have o2 : w3.cell? ⟨w.heap.size + 1 + 1, 2, none⟩ = some (.slice none 0 0) := (b3.cell (p := ⟨w.heap.size + 1 + 1, 2, none⟩) (by simp; omega)).trans (by simp [o2, go_sem])
  have p0 : w3.cell? ⟨w.heap.size + 1, 0, none⟩ = some (.slice none 0 0) := (b3.cell (p := ⟨w.heap.size + 1, 0, none⟩) (by simp; omega)).trans (by simp [p0, go_sem])
  have p1 : w3.cell? ⟨w.heap.size + 1, 1, none⟩ = some (.slice none 0 0) := (b3.cell (p := ⟨w.heap.size + 1, 1, none⟩) (by simp; omega)).trans (by simp [p1, go_sem])
  have p2 : w3.cell? ⟨w.heap.size + 1, 2, none⟩ = some (.slice none 0 0) := (b3.cell (p := ⟨w.heap.size + 1, 2, none⟩) (by simp; omega)).trans (by simp [p2, go_sem])
  have fo0 : w3.frozen? ⟨w.heap.size + 1 + 1, 0, none⟩ = false := (b3.frozen (p := ⟨w.heap.size + 1 + 1, 0, none⟩) (by simp; omega)).trans (by simp [fo0])
  have fo1 : w3.frozen? ⟨w.heap.size + 1 + 1, 1, none⟩ = false := (b3.frozen (p := ⟨w.heap.size + 1 + 1, 1, none⟩) (by simp; omega)).trans (by simp [fo1])
  have fo2 : w3.frozen? ⟨w.heap.size + 1 + 1, 2, none⟩ = false := (b3.frozen (p := ⟨w.heap.size + 1 + 1, 2, none⟩) (by simp; omega)).trans (by simp [fo2])
  have fp0 : w3.frozen? ⟨w.heap.size + 1, 0, none⟩ = false := (b3.frozen (p := ⟨w.heap.size + 1, 0, none⟩) (by simp; omega)).trans (by simp [fp0])
  have fp1 : w3.frozen? ⟨w.heap.size + 1, 1, none⟩ = false := (b3.frozen (p := ⟨w.heap.size + 1, 1, none⟩) (by simp; omega)).trans (by simp [fp1])
  have fp2 : w3.frozen? ⟨w.heap.size + 1, 2, none⟩ = false := (b3.frozen (p := ⟨w.heap.size + 1, 2, none⟩) (by simp; omega)).trans (by simp [fp2])
  have B3 := hide ((unhide B2).trans (b3.mono (by simp; omega)))
  simp only [World.setCell, Array.size_modify] at r3
  have Q3 := hide r3
  have Q2 := hide ((unhide Q2).below b3)
  have Q1 := hide ((unhide Q1).below b3)
  clear b3 r3
  go_wp2_with fail
  refine bodyPost_ret (v := .agg #[.slice (some ⟨w.heap.size + 1 + 1 + 1, 0, none⟩) l1 l1, .slice (some ⟨w1.heap.size, 0, none⟩) l2 l2, .slice (some ⟨w2.heap.size, 0, none⟩) l3 l3]) (by simp [results, Try.results11, go_sem, *]) rfl ⟨w.heap.size + 1 + 1 + 1, w1.heap.size, w2.heap.size, rfl, ?_, ?_, ?_, ?_⟩
  · repeat (first | exact unhide Q1 | refine Row.setCell ?_ (by simp; try omega) _)
  · repeat (first | exact unhide Q2 | refine Row.setCell ?_ (by simp; try omega) _)
  · repeat (first | exact unhide Q3 | refine Row.setCell ?_ (by simp; try omega) _)
  · repeat (first | exact unhide B3 | refine Below.setCell ?_ (by simp; try omega) _)

end Go.Proofs.Ytbaocifpifbldaj
