/-
  How a list of Tasks is opened: its texts and numbers. No condition.
  How a list of Carrys is opened: its texts and numbers. No condition.
  How a list of Defects is opened: its texts and numbers. No condition.
  How a fleet is opened: its three lists and three numbers. No condition.
  How a list of Deed19s is opened: its texts and numbers. No condition.
-/
import Derived.Test.YticdccdkjepifaaGreatMOpenE
import Derived.Test.YticdccdkjepifaaGreatMWrOrd
import Derived.Test.YticdccdkjepifaaGreatOpen
import Derived.Test.YticdccdkjepifaaGreatMFlIn

namespace Go.Proofs.YticdccdkjepifaaGreat
open Go.ChangeShapes Go.WideShapes Go.ChangeAt Go.RowKit Go.Joins Go.Deep

theorem fitTs_all {ps : List Ts} {len : Nat} (hl : ps.length = len) (h : ∀ i, i < len → fitT (elAt ps i).nm) : ∀ i, fitT (elAt ps i).nm := by
  intro i
  by_cases hi : i < len
  · exact h i hi
  · unfold elAt
    rw [List.getElem?_eq_none (by omega)]
    show (⟨#[]⟩ : ByteArray).size ≤ 9223372036854775807
    decide
theorem rowTk_of {H : Type} {enc : TypeId × Value → H} {W : World} {base fuel : Nat} {held : Bool} {v : Value} {y : DataW H × List MemPlace}
    (h : DataW.trod enc Tryz.prog W base (fun _ => true) held fuel 22 [v] = some y) :
    ∃ a len cap ps, v = .slice a len cap ∧ (RowE 7 tsC W a len ps ∧ ∀ i, fitT (elAt ps i).nm) ∧ len ≤ cap ∧ True := by
  obtain ⟨a, len, cap, ps, hv, hr, hc, hp⟩ := rowE_of (cells := tsC) (Pr := fun p => fitT p.nm) Tryz.underlying22 cellsTs (by omega) (fun n cs y hl h => by
    obtain ⟨x, e, hx⟩ := task_of hl h
    refine ⟨x, hx, fun q hq => ?_⟩
    subst e
    have hq' : q = 0 ∨ q = 1 ∨ q = 2 ∨ q = 3 ∨ q = 4 ∨ q = 5 ∨ q = 6 := by omega
    rcases hq' with rfl | rfl | rfl | rfl | rfl | rfl | rfl <;> rfl) h
  exact ⟨a, len, cap, ps, hv, ⟨hr, fitTs_all hr.len_eq hp⟩, hc, trivial⟩

end Go.Proofs.YticdccdkjepifaaGreat

namespace Go.Proofs.YticdccdkjepifaaGreat
open Go.ChangeShapes Go.WideShapes Go.ChangeAt Go.RowKit Go.Joins Go.Deep

theorem cellsCarry : Tryz.prog.cellsOf 84 = 3 := by kernel_rfl
theorem fitCr_all {ps : List Cr} {len : Nat} (hl : ps.length = len) (h : ∀ i, i < len → fitT (elAt ps i).n) : ∀ i, fitT (elAt ps i).n := by
  intro i
  by_cases hi : i < len
  · exact h i hi
  · unfold elAt
    rw [List.getElem?_eq_none (by omega)]
    show (⟨#[]⟩ : ByteArray).size ≤ 9223372036854775807
    decide
theorem rowCr_of {H : Type} {enc : TypeId × Value → H} {W : World} {base fuel : Nat} {held : Bool} {v : Value} {y : DataW H × List MemPlace}
    (h : DataW.trod enc Tryz.prog W base (fun _ => true) held fuel 23 [v] = some y) :
    ∃ a len cap ps, v = .slice a len cap ∧ (RowE 3 crC W a len ps ∧ ∀ i, fitT (elAt ps i).n) ∧ len ≤ cap ∧ True := by
  obtain ⟨a, len, cap, ps, hv, hr, hc, hp⟩ := rowE_of (cells := crC) (Pr := fun p => fitT p.n) Tryz.underlying23 cellsCarry (by omega) (fun n cs y hl h => by
    obtain ⟨k, hf⟩ := fields_of1 Tryz.underlying84 (by kernel_rfl) hl h
    obtain ⟨c0, y0, e0, t0⟩ := hf 0 _ rfl
    obtain ⟨c1, y1, e1, t1⟩ := hf 1 _ rfl
    obtain ⟨c2, y2, e2, t2⟩ := hf 2 _ rfl
    obtain ⟨b0, f0, _, s0⟩ := DataW.trod_string Tryz.underlying9 t0
    obtain ⟨b1, f1, _, s1⟩ := DataW.trod_int Tryz.underlying3 t1
    obtain ⟨b2, f2, _, s2⟩ := DataW.trod_int Tryz.underlying3 t2
    simp only [List.cons.injEq, and_true] at f0 f1 f2
    subst f0 f1 f2
    refine ⟨⟨b0, b1, b2⟩, by unfold maxLen at s0; exact s0, fun q hq => ?_⟩
    have hq' : q = 0 ∨ q = 1 ∨ q = 2 := by omega
    rcases hq' with rfl | rfl | rfl <;> assumption) h
  exact ⟨a, len, cap, ps, hv, ⟨hr, fitCr_all hr.len_eq hp⟩, hc, trivial⟩

end Go.Proofs.YticdccdkjepifaaGreat

namespace Go.Proofs.YticdccdkjepifaaGreat
open Go.ChangeShapes Go.WideShapes Go.ChangeAt Go.RowKit Go.Joins Go.Deep

theorem cellsDefect : Tryz.prog.cellsOf 87 = 3 := by kernel_rfl
theorem fitDf_all {ps : List Df} {len : Nat} (hl : ps.length = len) (h : ∀ i, i < len → fitT (elAt ps i).n) : ∀ i, fitT (elAt ps i).n := by
  intro i
  by_cases hi : i < len
  · exact h i hi
  · unfold elAt
    rw [List.getElem?_eq_none (by omega)]
    show (⟨#[]⟩ : ByteArray).size ≤ 9223372036854775807
    decide
theorem rowDf_of {H : Type} {enc : TypeId × Value → H} {W : World} {base fuel : Nat} {held : Bool} {v : Value} {y : DataW H × List MemPlace}
    (h : DataW.trod enc Tryz.prog W base (fun _ => true) held fuel 24 [v] = some y) :
    ∃ a len cap ps, v = .slice a len cap ∧ (RowE 3 dfC W a len ps ∧ ∀ i, fitT (elAt ps i).n) ∧ len ≤ cap ∧ True := by
  obtain ⟨a, len, cap, ps, hv, hr, hc, hp⟩ := rowE_of (cells := dfC) (Pr := fun p => fitT p.n) Tryz.underlying24 cellsDefect (by omega) (fun n cs y hl h => by
    obtain ⟨k, hf⟩ := fields_of1 Tryz.underlying87 (by kernel_rfl) hl h
    obtain ⟨c0, y0, e0, t0⟩ := hf 0 _ rfl
    obtain ⟨c1, y1, e1, t1⟩ := hf 1 _ rfl
    obtain ⟨c2, y2, e2, t2⟩ := hf 2 _ rfl
    obtain ⟨b0, f0, _, s0⟩ := DataW.trod_string Tryz.underlying9 t0
    obtain ⟨b1, f1, _, s1⟩ := DataW.trod_int Tryz.underlying3 t1
    obtain ⟨b2, f2, _, s2⟩ := DataW.trod_int Tryz.underlying3 t2
    simp only [List.cons.injEq, and_true] at f0 f1 f2
    subst f0 f1 f2
    refine ⟨⟨b0, b1, b2⟩, by unfold maxLen at s0; exact s0, fun q hq => ?_⟩
    have hq' : q = 0 ∨ q = 1 ∨ q = 2 := by omega
    rcases hq' with rfl | rfl | rfl <;> assumption) h
  exact ⟨a, len, cap, ps, hv, ⟨hr, fitDf_all hr.len_eq hp⟩, hc, trivial⟩

end Go.Proofs.YticdccdkjepifaaGreat

namespace Go.Proofs.YticdccdkjepifaaGreat
open Go.ChangeShapes Go.WideShapes Go.ChangeAt Go.RowKit Go.Joins Go.Deep

theorem cellsFlT : Tryz.prog.cellsOf 22 = 1 := by kernel_rfl
theorem cellsFlC : Tryz.prog.cellsOf 23 = 1 := by kernel_rfl
theorem cellsFlD : Tryz.prog.cellsOf 24 = 1 := by kernel_rfl
theorem cellsFl : Tryz.prog.cellsOf 28 = 6 := by kernel_rfl
set_option maxRecDepth 20000 in
/-- A fleet that is an argument. -/
theorem fleet_arg {H : Type} {enc : TypeId × Value → H} {W : World} {base b0 : Nat} {held : Bool} {r : Reach} {v : Value} {d : DataW H} {q : List MemPlace}
    (hv : Value.okWide Tryz.prog W r b0 28 v) (h : DataW.Trod enc Tryz.prog W base (fun _ => true) held 28 v d q) :
    ∃ nh nc nd a1 a2 a3 l1 c1 l2 c2 l3 c3 ts cs ds, v = .agg #[.slice a1 l1 c1, .slice a2 l2 c2, .slice a3 l3 c3, .int .i64 nh, .int .i64 nc, .int .i64 nd] ∧ FlIn W a1 a2 a3 l1 l2 l3 ts cs ds ∧ (∀ i, fitT (elAt ts i).nm) ∧ (∀ i, fitT (elAt cs i).n) ∧ (∀ i, fitT (elAt ds i).n) := by
  obtain ⟨cs, rfl, hsz⟩ := okWide_struct Tryz.underlying28 hv
  obtain ⟨fuel, hf0⟩ := h
  have hl : cs.toList.length = 6 := by rw [Array.length_toList, hsz, cellsFl]
  have h : DataW.trod enc Tryz.prog W base (fun _ => true) held fuel 28 cs.toList = some (d, q) := by simpa [Value.cells] using hf0
  rw [← Array.toArray_toList (xs := cs)]
  generalize cs.toList = cs' at hl h
  clear hf0 hv hsz
  obtain ⟨xs, k, _, _, _, hlen, hf⟩ := DataW.trod_struct Tryz.underlying28 h
  obtain ⟨c0, c1, c2, c3, c4, c5, rfl⟩ : ∃ c0 c1 c2 c3 c4 c5, cs' = [c0, c1, c2, c3, c4, c5] := by
    match cs', hl with
    | [a, b, c, d, e, f], _ => exact ⟨_, _, _, _, _, _, rfl⟩
  have hlen : xs.length = 4 := hlen
  have g : ∀ i, i < 4 → ∃ x, xs[i]? = some x := fun i hi => ⟨_, List.getElem?_eq_getElem (by omega)⟩
  obtain ⟨x0, g0⟩ := g 0 (by omega)
  obtain ⟨x1, g1⟩ := g 1 (by omega)
  obtain ⟨x2, g2⟩ := g 2 (by omega)
  obtain ⟨x3, g3⟩ := g 3 (by omega)
  have h0 : DataW.trod enc Tryz.prog W base (fun _ => true) held k 22 (([c0, c1, c2, c3, c4, c5].drop 0).take (Tryz.prog.cellsOf 22)) = xs[0]? := hf 0 _ rfl
  have h1 : DataW.trod enc Tryz.prog W base (fun _ => true) held k 23 (([c0, c1, c2, c3, c4, c5].drop 1).take (Tryz.prog.cellsOf 23)) = xs[1]? := hf 1 _ rfl
  have h2 : DataW.trod enc Tryz.prog W base (fun _ => true) held k 24 (([c0, c1, c2, c3, c4, c5].drop 2).take (Tryz.prog.cellsOf 24)) = xs[2]? := hf 2 _ rfl
  have h3 : DataW.trod enc Tryz.prog W base (fun _ => true) held k 26 (([c0, c1, c2, c3, c4, c5].drop 3).take (Tryz.prog.cellsOf 26)) = xs[3]? := hf 3 _ rfl
  rw [cellsFlT, g0] at h0
  rw [cellsFlC, g1] at h1
  rw [cellsFlD, g2] at h2
  rw [cellsTsC, g3] at h3
  have h0 : DataW.trod enc Tryz.prog W base (fun _ => true) held k 22 [c0] = some x0 := h0
  have h1 : DataW.trod enc Tryz.prog W base (fun _ => true) held k 23 [c1] = some x1 := h1
  have h2 : DataW.trod enc Tryz.prog W base (fun _ => true) held k 24 [c2] = some x2 := h2
  have h3 : DataW.trod enc Tryz.prog W base (fun _ => true) held k 26 [c3, c4, c5] = some x3 := h3
  obtain ⟨a1, l1, p1, ts, e0, ⟨r0, f0⟩, _, _⟩ := rowTk_of h0
  obtain ⟨a2, l2, p2, cr, e1, ⟨r1, f1⟩, _, _⟩ := rowCr_of h1
  obtain ⟨a3, l3, p3, df, e2, ⟨r2, f2⟩, _, _⟩ := rowDf_of h2
  obtain ⟨k2, hk2⟩ := fields_of1 Tryz.underlying26 (by kernel_rfl) rfl h3
  obtain ⟨d0, y0, z0, t0⟩ := hk2 0 _ rfl
  obtain ⟨d1, y1, z1, t1⟩ := hk2 1 _ rfl
  obtain ⟨d2, y2, z2, t2⟩ := hk2 2 _ rfl
  obtain ⟨b0, u0, _, _⟩ := DataW.trod_int Tryz.underlying3 t0
  obtain ⟨b1, u1, _, _⟩ := DataW.trod_int Tryz.underlying3 t1
  obtain ⟨b2, u2, _, _⟩ := DataW.trod_int Tryz.underlying3 t2
  simp only [List.getElem?_cons_zero, List.getElem?_cons_succ, Option.some.injEq] at z0 z1 z2
  simp only [List.cons.injEq, and_true] at u0 u1 u2
  subst z0 z1 z2 u0 u1 u2 e0 e1 e2
  exact ⟨b0, b1, b2, a1, a2, a3, l1, p1, l2, p2, l3, p3, ts, cr, df, rfl, ⟨r0, r1, r2⟩, f0, f1, f2⟩

end Go.Proofs.YticdccdkjepifaaGreat

namespace Go.Proofs.YticdccdkjepifaaGreat
open Go.ChangeShapes Go.WideShapes Go.ChangeAt Go.RowKit Go.Joins Go.Deep

theorem cellsDeed19 : Tryz.prog.cellsOf 56 = 4 := by kernel_rfl
theorem fitDe_all {ps : List De} {len : Nat} (hl : ps.length = len) (h : ∀ i, i < len → fitT (elAt ps i).n) : ∀ i, fitT (elAt ps i).n := by
  intro i
  by_cases hi : i < len
  · exact h i hi
  · unfold elAt
    rw [List.getElem?_eq_none (by omega)]
    show (⟨#[]⟩ : ByteArray).size ≤ 9223372036854775807
    decide
theorem rowDe_of {H : Type} {enc : TypeId × Value → H} {W : World} {base fuel : Nat} {held : Bool} {v : Value} {y : DataW H × List MemPlace}
    (h : DataW.trod enc Tryz.prog W base (fun _ => true) held fuel 29 [v] = some y) :
    ∃ a len cap ps, v = .slice a len cap ∧ (RowE 4 deC W a len ps ∧ ∀ i, fitT (elAt ps i).n) ∧ len ≤ cap ∧ True := by
  obtain ⟨a, len, cap, ps, hv, hr, hc, hp⟩ := rowE_of (cells := deC) (Pr := fun p => fitT p.n) Tryz.underlying29 cellsDeed19 (by omega) (fun n cs y hl h => by
    obtain ⟨k, hf⟩ := fields_of1 Tryz.underlying56 (by kernel_rfl) hl h
    obtain ⟨c0, y0, e0, t0⟩ := hf 0 _ rfl
    obtain ⟨c1, y1, e1, t1⟩ := hf 1 _ rfl
    obtain ⟨c2, y2, e2, t2⟩ := hf 2 _ rfl
    obtain ⟨c3, y3, e3, t3⟩ := hf 3 _ rfl
    obtain ⟨b0, f0, _, s0⟩ := DataW.trod_int Tryz.underlying3 t0
    obtain ⟨b1, f1, _, s1⟩ := DataW.trod_string Tryz.underlying9 t1
    obtain ⟨b2, f2, _, s2⟩ := DataW.trod_int Tryz.underlying3 t2
    obtain ⟨b3, f3, _, s3⟩ := DataW.trod_int Tryz.underlying3 t3
    simp only [List.cons.injEq, and_true] at f0 f1 f2 f3
    subst f0 f1 f2 f3
    refine ⟨⟨b0, b1, b2, b3⟩, by unfold maxLen at s1; exact s1, fun q hq => ?_⟩
    have hq' : q = 0 ∨ q = 1 ∨ q = 2 ∨ q = 3 := by omega
    rcases hq' with rfl | rfl | rfl | rfl <;> assumption) h
  exact ⟨a, len, cap, ps, hv, ⟨hr, fitDe_all hr.len_eq hp⟩, hc, trivial⟩

end Go.Proofs.YticdccdkjepifaaGreat
