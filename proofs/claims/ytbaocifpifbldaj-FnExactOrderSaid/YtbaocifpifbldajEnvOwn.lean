/-
  The law's copy of an envelope owns its memory; its marks write that memory alone. Lists of bounded length.
-/
import Derived.Test.YtbaocifpifbldajOwnI
import Derived.Test.YtbaocifpifbldajEnvTo
namespace Go.Proofs.Ytbaocifpifbldaj
open Go.RowKit

set_option maxHeartbeats 2000000 in
theorem toEnvelope_own (a1 a2 a3 : Option Addr) (l1 c1 l2 c2 l3 c3 : Nat) (xs ys zs : List Int) (w : World) (h1 : Row w a1 l1 xs) (h2 : Row w a2 l2 ys) (h3 : Row w a3 l3 zs) (hl1 : l1 ≤ 1048576) (hl2 : l2 ≤ 1048576) (hl3 : l3 ≤ 1048576) :
    Calls Try.prog 11 #[.agg #[.slice a1 l1 c1, .slice a2 l2 c2, .slice a3 l3 c3]] w fun e w' => ∃ g1 g2 g3 : Nat, e = .returned (.agg #[.slice (some ⟨g1, 0, none⟩) l1 l1, .slice (some ⟨g2, 0, none⟩) l2 l2, .slice (some ⟨g3, 0, none⟩) l3 l3]) ∧ OwnI w' w.heap.size (.slice (some ⟨g1, 0, none⟩) l1 l1) xs ∧ OwnI w' w.heap.size (.slice (some ⟨g2, 0, none⟩) l2 l2) ys ∧ OwnI w' w.heap.size (.slice (some ⟨g3, 0, none⟩) l3 l3) zs ∧ (w.heap.size ≤ g1 ∧ g1 < g2 ∧ g2 < g3 ∧ g3 < w'.heap.size) ∧ Below w.heap.size w w' := by
  have B0 := hide (bel3 (w := w) (.cells #[.slice a1 l1 c1, .slice a2 l2 c2, .slice a3 l3 c3] 24) (.cells #[.slice none 0 0, .slice none 0 0, .slice none 0 0] 27) (.cells #[.slice none 0 0, .slice none 0 0, .slice none 0 0] 27))
  have R3 := hide h3
  have R2 := hide h2
  have R1 := hide (h1.below (unhide B0))
  clear h1 h2 h3
  go_enter Try.func11, Try.ntmps11
  go_wp2_with fail
  refine (toIntS_own _ _ _ xs _ (unhide R1) hl1).mono ?_
  rintro e w1 ⟨rfl, r1, b1⟩
  have B1 := hide (((unhide B0).trans (b1.mono (by simp; omega))).setCell (p := ⟨w.heap.size + 1 + 1, 0, none⟩) (by simp; omega) (Value.slice (some ⟨w.heap.size + 1 + 1 + 1, 0, none⟩) l1 l1))
  have hs1 : w.heap.size + 3 ≤ w1.heap.size := by have := b1.size; simp at this; omega
  obtain ⟨hc, hf⟩ := bcell b1
  simp only [World.alloc, Array.size_push] at r1
  have hg1 := (r1.lies _ rfl).2
  have Q1 := hide ((r1.mono (base' := w.heap.size) (by omega)).set_other (S := w.heap.size + 1 + 1) (o := 0) (Value.slice (some ⟨w.heap.size + 1 + 1 + 1, 0, none⟩) l1 l1) (by simp [Value.ownBlock]; try omega))
  clear b1 r1
  go_wp2_with fail
  refine (toIntS_own _ _ _ ys _ ((unhide R2).below (unhide B1)) hl2).mono ?_
  rintro e w2 ⟨rfl, r2, b2⟩
  have hs2 : w1.heap.size ≤ w2.heap.size := by have := b2.size; simp at this; omega
  have x2 : w2.cell? ⟨w.heap.size, 2, none⟩ = some (.slice a3 l3 c3) := (b2.cell (p := ⟨w.heap.size, 2, none⟩) (by simp; omega)).trans (by simp [hc, go_sem])
  have o0 : w2.cell? ⟨w.heap.size + 1 + 1, 0, none⟩ = some (Value.slice (some ⟨w.heap.size + 1 + 1 + 1, 0, none⟩) l1 l1) := (b2.cell (p := ⟨w.heap.size + 1 + 1, 0, none⟩) (by simp; omega)).trans (by simp [hc, go_sem])
  have o1 : w2.cell? ⟨w.heap.size + 1 + 1, 1, none⟩ = some (.slice none 0 0) := (b2.cell (p := ⟨w.heap.size + 1 + 1, 1, none⟩) (by simp; omega)).trans (by simp [hc, go_sem])
  have o2 : w2.cell? ⟨w.heap.size + 1 + 1, 2, none⟩ = some (.slice none 0 0) := (b2.cell (p := ⟨w.heap.size + 1 + 1, 2, none⟩) (by simp; omega)).trans (by simp [hc, go_sem])
  have p0 : w2.cell? ⟨w.heap.size + 1, 0, none⟩ = some (.slice none 0 0) := (b2.cell (p := ⟨w.heap.size + 1, 0, none⟩) (by simp; omega)).trans (by simp [hc, go_sem])
  have p1 : w2.cell? ⟨w.heap.size + 1, 1, none⟩ = some (.slice none 0 0) := (b2.cell (p := ⟨w.heap.size + 1, 1, none⟩) (by simp; omega)).trans (by simp [hc, go_sem])
  have p2 : w2.cell? ⟨w.heap.size + 1, 2, none⟩ = some (.slice none 0 0) := (b2.cell (p := ⟨w.heap.size + 1, 2, none⟩) (by simp; omega)).trans (by simp [hc, go_sem])
  have fo0 : w2.frozen? ⟨w.heap.size + 1 + 1, 0, none⟩ = false := (b2.frozen (p := ⟨w.heap.size + 1 + 1, 0, none⟩) (by simp; omega)).trans (by simp [hf, go_sem])
  have fo1 : w2.frozen? ⟨w.heap.size + 1 + 1, 1, none⟩ = false := (b2.frozen (p := ⟨w.heap.size + 1 + 1, 1, none⟩) (by simp; omega)).trans (by simp [hf, go_sem])
  have fo2 : w2.frozen? ⟨w.heap.size + 1 + 1, 2, none⟩ = false := (b2.frozen (p := ⟨w.heap.size + 1 + 1, 2, none⟩) (by simp; omega)).trans (by simp [hf, go_sem])
  have fp0 : w2.frozen? ⟨w.heap.size + 1, 0, none⟩ = false := (b2.frozen (p := ⟨w.heap.size + 1, 0, none⟩) (by simp; omega)).trans (by simp [hf, go_sem])
  have fp1 : w2.frozen? ⟨w.heap.size + 1, 1, none⟩ = false := (b2.frozen (p := ⟨w.heap.size + 1, 1, none⟩) (by simp; omega)).trans (by simp [hf, go_sem])
  have fp2 : w2.frozen? ⟨w.heap.size + 1, 2, none⟩ = false := (b2.frozen (p := ⟨w.heap.size + 1, 2, none⟩) (by simp; omega)).trans (by simp [hf, go_sem])
  have B2 := hide (((unhide B1).trans (b2.mono (by simp; omega))).setCell (p := ⟨w.heap.size + 1 + 1, 1, none⟩) (by simp; omega) (Value.slice (some ⟨w1.heap.size, 0, none⟩) l2 l2))
  simp only [World.setCell, Array.size_modify] at r2
  have hg2 := (r2.lies _ rfl).2
  have Q2 := hide ((r2.mono (base' := w.heap.size) (by omega)).set_other (S := w.heap.size + 1 + 1) (o := 1) (Value.slice (some ⟨w1.heap.size, 0, none⟩) l2 l2) (by simp [Value.ownBlock]; try omega))
  have Q1 := hide (((unhide Q1).below b2).set_other (S := w.heap.size + 1 + 1) (o := 1) (Value.slice (some ⟨w1.heap.size, 0, none⟩) l2 l2) (by simp [Value.ownBlock]; try omega))
  clear b2 r2 hc hf
  go_wp2_with fail
  refine (toIntS_own _ _ _ zs _ ((unhide R3).below (unhide B2)) hl3).mono ?_
  rintro e w3 ⟨rfl, r3, b3⟩
  have hs3 : w2.heap.size ≤ w3.heap.size := by have := b3.size; simp at this; omega
  have o0 : w3.cell? ⟨w.heap.size + 1 + 1, 0, none⟩ = some (Value.slice (some ⟨w.heap.size + 1 + 1 + 1, 0, none⟩) l1 l1) := (b3.cell (p := ⟨w.heap.size + 1 + 1, 0, none⟩) (by simp; omega)).trans (by simp [o0, go_sem])
  have o1 : w3.cell? ⟨w.heap.size + 1 + 1, 1, none⟩ = some (Value.slice (some ⟨w1.heap.size, 0, none⟩) l2 l2) := (b3.cell (p := ⟨w.heap.size + 1 + 1, 1, none⟩) (by simp; omega)).trans (by simp [o1, go_sem])
  have o2 : w3.cell? ⟨w.heap.size + 1 + 1, 2, none⟩ = some (.slice none 0 0) := (b3.cell (p := ⟨w.heap.size + 1 + 1, 2, none⟩) (by simp; omega)).trans (by simp [o2, go_sem])
  have p0 : w3.cell? ⟨w.heap.size + 1, 0, none⟩ = some (.slice none 0 0) := (b3.cell (p := ⟨w.heap.size + 1, 0, none⟩) (by simp; omega)).trans (by simp [p0, go_sem])
  have p1 : w3.cell? ⟨w.heap.size + 1, 1, none⟩ = some (.slice none 0 0) := (b3.cell (p := ⟨w.heap.size + 1, 1, none⟩) (by simp; omega)).trans (by simp [p1, go_sem])
  have p2 : w3.cell? ⟨w.heap.size + 1, 2, none⟩ = some (.slice none 0 0) := (b3.cell (p := ⟨w.heap.size + 1, 2, none⟩) (by simp; omega)).trans (by simp [p2, go_sem])
  have fo0 : w3.frozen? ⟨w.heap.size + 1 + 1, 0, none⟩ = false := (b3.frozen (p := ⟨w.heap.size + 1 + 1, 0, none⟩) (by simp; omega)).trans (by simp [fo0])
  have fo1 : w3.frozen? ⟨w.heap.size + 1 + 1, 1, none⟩ = false := (b3.frozen (p := ⟨w.heap.size + 1 + 1, 1, none⟩) (by simp; omega)).trans (by simp [fo1])
  have fo2 : w3.frozen? ⟨w.heap.size + 1 + 1, 2, none⟩ = false := (b3.frozen (p := ⟨w.heap.size + 1 + 1, 2, none⟩) (by simp; omega)).trans (by simp [fo2])
  have fp0 : w3.frozen? ⟨w.heap.size + 1, 0, none⟩ = false := (b3.frozen (p := ⟨w.heap.size + 1, 0, none⟩) (by simp; omega)).trans (by simp [fp0])
  have fp1 : w3.frozen? ⟨w.heap.size + 1, 1, none⟩ = false := (b3.frozen (p := ⟨w.heap.size + 1, 1, none⟩) (by simp; omega)).trans (by simp [fp1])
  have fp2 : w3.frozen? ⟨w.heap.size + 1, 2, none⟩ = false := (b3.frozen (p := ⟨w.heap.size + 1, 2, none⟩) (by simp; omega)).trans (by simp [fp2])
  have B3 := hide ((unhide B2).trans (b3.mono (by simp; omega)))
  simp only [World.setCell, Array.size_modify] at r3
  have Q3 := hide (r3.mono (base' := w.heap.size) (by omega))
  have hg3 := (unhide Q3).lies _ rfl
  have Q2 := hide ((unhide Q2).below b3)
  have Q1 := hide ((unhide Q1).below b3)
  clear b3 r3
  go_wp2_with fail
  refine bodyPost_ret (v := .agg #[.slice (some ⟨w.heap.size + 1 + 1 + 1, 0, none⟩) l1 l1, .slice (some ⟨w1.heap.size, 0, none⟩) l2 l2, .slice (some ⟨w2.heap.size, 0, none⟩) l3 l3]) (by simp [results, Try.results11, go_sem, *]) rfl ⟨w.heap.size + 1 + 1 + 1, w1.heap.size, w2.heap.size, rfl, ?_, ?_, ?_, ?_, ?_⟩
  · repeat (first | exact unhide Q1 | refine OwnI.set_other ?_ _ (by simp [Value.ownBlock]; try omega))
  · repeat (first | exact unhide Q2 | refine OwnI.set_other ?_ _ (by simp [Value.ownBlock]; try omega))
  · repeat (first | exact unhide Q3 | refine OwnI.set_other ?_ _ (by simp [Value.ownBlock]; try omega))
  · simp [World.setCell]; omega
  · repeat (first | exact unhide B3 | refine Below.setCell ?_ (by simp; try omega) _)


/-- Outside of the blocks from lo to hi nothing has turned. -/
structure Turned (lo hi : Nat) (w w' : World) : Prop where
  os : w'.os = w.os
  tape : w'.tape = w.tape
  output : w'.output = w.output
  size : w.heap.size ≤ w'.heap.size
  block : ∀ k, k < w.heap.size → (k < lo ∨ hi ≤ k) → w'.heap[k]? = w.heap[k]?
theorem Turned.trans {lo hi : Nat} {a b c : World} (h : Turned lo hi a b) (k : Turned lo hi b c) : Turned lo hi a c :=
  ⟨k.os.trans h.os, k.tape.trans h.tape, k.output.trans h.output, Nat.le_trans h.size k.size, fun i hi' ho => (k.block i (Nat.lt_of_lt_of_le hi' h.size) ho).trans (h.block i hi' ho)⟩
theorem Turned.of_below {lo hi : Nat} {w w' : World} (h : Below w.heap.size w w') : Turned lo hi w w' := ⟨h.os, h.tape, h.output, h.size, fun k hk _ => h.block k hk⟩
theorem Turned.of_grown {lo hi g : Nat} {w w' : World} (h : w.grownBy w' (some g)) (h1 : lo ≤ g) (h2 : g < hi) : Turned lo hi w w' := ⟨h.os, h.tape, h.output, h.size, fun k hk ho => h.block k hk (by intro e; simp only [Option.some.injEq] at e; omega)⟩
theorem Turned.below {lo hi B : Nat} {w0 w w' : World} (h : Turned lo hi w w') (k : Below B w0 w) (h1 : B ≤ lo) (h2 : B ≤ w.heap.size) : Below B w0 w' :=
  k.trans ⟨h.os, h.tape, h.output, h.size, fun i hi' => h.block i (by omega) (.inl (by omega))⟩
theorem Own2.turned {w w' : World} {base lo hi : Nat} {T : TypeId} {v : Value} {ps : List (Int × Int)} (h : Own2 w base T v ps) (k : Turned lo hi w w') (hne : ∀ g, v.ownBlock = some g → g < lo ∨ hi ≤ g) : Own2 w' base T v ps := by
  obtain ⟨xs, ⟨h1, h2⟩, hx⟩ := h.own
  refine ⟨⟨xs, ⟨h1, ?_⟩, hx⟩, h.fit⟩
  rcases h2 with h2 | ⟨g, cap, cur, rfl, b, c, d⟩
  · exact .inl h2
  · refine .inr ⟨g, cap, cur, rfl, b, ?_, d⟩
    have hg : g < w.heap.size := by
      rcases Nat.lt_or_ge g w.heap.size with hlt | hge
      · exact hlt
      · rw [Array.getElem?_eq_none hge] at c; cases c
    rw [k.block g hg (hne g rfl)]; exact c
theorem Turned.cell {lo hi : Nat} {w w' : World} (h : Turned lo hi w w') {p : Addr} (hp : p.block < w.heap.size) (ho : p.block < lo ∨ hi ≤ p.block) : w'.cell? p = w.cell? p := World.cell?_of_block (h.block p.block hp ho)

set_option maxHeartbeats 1000000 in
theorem markEnvelope_any (lo hi g1 g2 g3 l1 l2 l3 : Nat) (xs ys zs : List Int) (k : Int) (w : World) (h1 : OwnI w lo (.slice (some ⟨g1, 0, none⟩) l1 l1) xs) (h2 : OwnI w lo (.slice (some ⟨g2, 0, none⟩) l2 l2) ys) (h3 : OwnI w lo (.slice (some ⟨g3, 0, none⟩) l3 l3) zs) (e1 : xs.length = l1) (e2 : ys.length = l2) (e3 : zs.length = l3) (hl1 : l1 ≤ 1048576) (hl2 : l2 ≤ 1048576) (hl3 : l3 ≤ 1048576) (ho : lo ≤ g1 ∧ g1 < g2 ∧ g2 < g3 ∧ g3 < hi) (hs : hi ≤ w.heap.size) (hk0 : 0 ≤ k) (hk1 : k ≤ 100000000) :
    Calls Try.prog 32 #[.agg #[.slice (some ⟨g1, 0, none⟩) l1 l1, .slice (some ⟨g2, 0, none⟩) l2 l2, .slice (some ⟨g3, 0, none⟩) l3 l3], .int .i64 k] w fun e w' => e = .returned (.int .i64 (k + l1 + l2 + l3)) ∧ Turned lo hi w w' := by
  have bA := bel1 (w := w) (Obj.cells #[.slice (some ⟨g1, 0, none⟩) l1 l1, .slice (some ⟨g2, 0, none⟩) l2 l2, .slice (some ⟨g3, 0, none⟩) l3 l3] 27)
  have H1 := hide (h1.below bA)
  have H2 := hide (h2.below bA)
  have H3 := hide (h3.below bA)
  have E1 := hide e1
  have E2 := hide e2
  have E3 := hide e3
  have T0 := hide (Turned.of_below (lo := lo) (hi := hi) bA)
  clear h1 h2 h3 bA e1 e2 e3
  go_enter Try.func32, Try.ntmps32
  go_wp2_with fail
  refine (markIntS_any _ _ _ _ xs k _ (unhide H1) (unhide E1) hl1 hk0 (by omega)).mono ?_
  rintro e w1 ⟨rfl, gr1⟩
  have t1 := Turned.of_grown (lo := lo) (hi := hi) (g := g1) gr1 (by omega) (by omega)
  have y1 := t1.cell (p := ⟨w.heap.size, 1, none⟩) (by simp) (.inr (by simp; omega))
  have y2 := t1.cell (p := ⟨w.heap.size, 2, none⟩) (by simp) (.inr (by simp; omega))
  have s1 := t1.size
  simp at s1
  have H2 := hide ((unhide H2).far gr1 (fun g hg => by simp [Value.ownBlock] at hg ⊢; omega))
  have H3 := hide ((unhide H3).far gr1 (fun g hg => by simp [Value.ownBlock] at hg ⊢; omega))
  have T1 := hide ((unhide T0).trans t1)
  clear gr1 t1
  go_wp2_with fail
  refine (markIntS_any _ _ _ _ ys _ _ (unhide H2) (unhide E2) hl2 (by omega) (by omega)).mono ?_
  rintro e w2 ⟨rfl, gr2⟩
  have t2 := Turned.of_grown (lo := lo) (hi := hi) (g := g2) gr2 (by omega) (by omega)
  have y2 := (t2.cell (p := ⟨w.heap.size, 2, none⟩) (by simp; omega) (.inr (by simp; omega))).trans y2
  have H3 := hide ((unhide H3).far gr2 (fun g hg => by simp [Value.ownBlock] at hg ⊢; omega))
  have T2 := hide ((unhide T1).trans t2)
  clear gr2 t2
  go_wp2_with fail
  refine (markIntS_any _ _ _ _ zs _ _ (unhide H3) (unhide E3) hl3 (by omega) (by omega)).mono ?_
  rintro e w3 ⟨rfl, gr3⟩
  have T3 := hide ((unhide T2).trans (Turned.of_grown (lo := lo) (hi := hi) (g := g3) gr3 (by omega) (by omega)))
  clear gr3
  go_wp2_with fail
  go_ret
  exact ⟨rfl, unhide T3⟩

end Go.Proofs.Ytbaocifpifbldaj
