/-
  How an argument is opened that is a struct of one-cell fields, or a slice of such. No condition.
  How a task is opened: its seven cells, the text's size. No condition.
-/
import Derived.Test.YticdccdkjepifaaGreatMBase
import Derived.Lib.SmallJoins
import Derived.Deep.SlicePairs
import Derived.Test.YticdccdkjepifaaGreatOpen
import Derived.Test.YticdccdkjepifaaGreatMLowPure

namespace Go.Proofs.YticdccdkjepifaaGreat
open Go.ChangeShapes Go.WideShapes Go.ChangeAt Go.RowKit Go.Joins Go.Deep

section
variable {H : Type} {enc : TypeId × Value → H} {P : Program} {W : World} {base : Nat} {spare : Nat → Bool} {held : Bool}

/-- The cells of a struct whose fields take one each. -/
theorem fields_of1 {e : TypeId} {fs : Array Field} {n : Nat} {cs : List Value} {y : DataW H × List MemPlace} (he : P.underlying e = some (.struct fs)) (hone : oneCellFields P fs = true) (hl : cs.length = fs.size)
    (h : DataW.trod enc P W base spare held n e cs = some y) : ∃ k, ∀ (i : Nat) (f : Field), fs[i]? = some f → ∃ c y', cs[i]? = some c ∧ DataW.trod enc P W base spare held k f.type [c] = some y' := by
  obtain ⟨xs, k, _, _, _, hlen, hf⟩ := DataW.trod_struct he h
  refine ⟨k, fun i f hi => ?_⟩
  have hi' : i < fs.size := by
    rcases Nat.lt_or_ge i fs.size with hlt | hge
    · exact hlt
    · rw [Array.getElem?_eq_none hge] at hi; cases hi
  obtain ⟨o, c⟩ := hone_of hone i f hi
  have h1 := hf i f hi
  rw [o, c, List.drop_eq_getElem_cons (by omega), List.take_succ_cons, List.take_zero, List.getElem?_eq_getElem (by omega)] at h1
  exact ⟨_, _, List.getElem?_eq_getElem (by omega), h1⟩

/-- The same of an argument. -/
theorem agg_of1 {r : Reach} {b0 : Nat} {t : TypeId} {fs : Array Field} {v : Value} {d : DataW H} {p : List MemPlace} (hs : P.underlying t = some (.struct fs)) (hone : oneCellFields P fs = true) (hC : P.cellsOf t = fs.size)
    (hv : Value.okWide P W r b0 t v) (h : DataW.Trod enc P W base spare held t v d p) :
    ∃ cs k, v = .agg cs ∧ cs.size = fs.size ∧ ∀ (i : Nat) (f : Field), fs[i]? = some f → ∃ c y', cs[i]? = some c ∧ DataW.trod enc P W base spare held k f.type [c] = some y' := by
  obtain ⟨cs, rfl, hsz⟩ := okWide_struct hs hv
  obtain ⟨fuel, hf⟩ := h
  obtain ⟨k, hk⟩ := fields_of1 hs hone (by simpa [Value.cells] using hsz.trans hC) hf
  exact ⟨cs, k, rfl, hsz.trans hC, fun i f hi => by simpa [Value.cells] using hk i f hi⟩

/-- A slice whose elements take K cells. -/
theorem rowE_of {α : Type} [Inhabited α] {K : Nat} {cells : α → Nat → Value} {Pr : α → Prop} {t e : TypeId} {fuel : Nat} {v : Value} {y : DataW H × List MemPlace} (ht : P.underlying t = some (.slice e)) (ce : P.cellsOf e = K) (hK : 0 < K)
    (hel : ∀ n cs y, cs.length = K → DataW.trod enc P W base (fun _ => true) held n e cs = some y → ∃ x : α, Pr x ∧ ∀ q, q < K → cs[q]? = some (cells x q))
    (h : DataW.trod enc P W base (fun _ => true) held fuel t [v] = some y) :
    ∃ a len cap ps, v = .slice a len cap ∧ RowE K cells W a len ps ∧ len ≤ cap ∧ ∀ i, i < len → Pr (elAt ps i) := by
  rcases open_slice ht h with ⟨hcs, _⟩ | ⟨x, l, c, m, n, D, Pl, hcs, _, hl, hm, hmm, _, hx⟩
  · simp at hcs
    exact ⟨_, _, _, [], hcs, ⟨rfl, by omega, fun i hi => by omega⟩, Nat.le_refl _, fun i hi => by omega⟩
  · simp at hcs
    simp only [↓reduceIte] at hmm
    unfold maxLen at hm
    subst hmm
    have each : ∀ i, i < l → ∃ z : α, Pr z ∧ ∀ q, q < K → W.cell? (x.add (i * K + q)) = some (cells z q) := by
      intro i hi
      obtain ⟨cs', h1, h2⟩ := hx i (by omega)
      rw [ce] at h1
      obtain ⟨_, hlen, hcell⟩ := World.cells?_some h1
      obtain ⟨z, hz, hq⟩ := hel _ _ _ hlen h2
      refine ⟨z, hz, fun q hqk => ?_⟩
      have h3 := hcell q hqk
      rw [add_add] at h3
      rw [h3]
      exact hq q hqk
    obtain ⟨f, hf⟩ := choose_lt each
    have hn : ∀ i, i < l → elAt ((List.range l).map f) i = f i := by
      intro i hi
      simp [elAt, hi]
    refine ⟨_, _, _, (List.range l).map f, hcs, ⟨by simp, by omega, fun i hi => ?_⟩, hl, fun i hi => by rw [hn i hi]; exact (hf i hi).1⟩
    obtain ⟨b, off, spot⟩ := x
    have h0 := (hf 0 (by omega)).2 0 hK
    have hspot : spot = none := by simpa [Addr.add] using World.cell?_spot h0
    subst hspot
    refine ⟨b, off, rfl, fun q hq => ?_⟩
    rw [hn i hi, ← (hf i hi).2 q hq]
    have e : (⟨b, off, none⟩ : Addr).add (i * K + q) = ⟨b, off + i * K + q, none⟩ := by
      unfold Addr.add
      split
      · rename_i h
        rw [Nat.add_assoc, h]; rfl
      · simp [Nat.add_assoc]
    rw [e]
end

end Go.Proofs.YticdccdkjepifaaGreat

namespace Go.Proofs.YticdccdkjepifaaGreat
open Go.ChangeShapes Go.WideShapes Go.ChangeAt Go.RowKit Go.Joins Go.Deep

theorem cellsTsS : Tryz.prog.cellsOf 9 = 1 := by kernel_rfl
theorem cellsTsI : Tryz.prog.cellsOf 3 = 1 := by kernel_rfl
theorem cellsTsC : Tryz.prog.cellsOf 26 = 3 := by kernel_rfl
theorem cellsTs : Tryz.prog.cellsOf 81 = 7 := by kernel_rfl
set_option maxRecDepth 20000 in
theorem task_of {H : Type} {enc : TypeId × Value → H} {W : World} {base fuel : Nat} {held : Bool} {cs : List Value} {y : DataW H × List MemPlace} (hl : cs.length = 7)
    (h : DataW.trod enc Tryz.prog W base (fun _ => true) held fuel 81 cs = some y) :
    ∃ x : Ts, cs = [.string x.nm, .int .i64 x.h, .int .i64 x.c, .int .i64 x.d, .int .i64 x.dh, .int .i64 x.dc, .int .i64 x.dd] ∧ x.nm.size ≤ 9223372036854775807 := by
  obtain ⟨xs, k, _, _, _, hlen, hf⟩ := DataW.trod_struct Tryz.underlying81 h
  obtain ⟨c0, c1, c2, c3, c4, c5, c6, rfl⟩ : ∃ c0 c1 c2 c3 c4 c5 c6, cs = [c0, c1, c2, c3, c4, c5, c6] := by
    match cs, hl with
    | [a, b, c, d, e, f, g], _ => exact ⟨_, _, _, _, _, _, _, rfl⟩
  have hlen : xs.length = 5 := hlen
  have g : ∀ i, i < 5 → ∃ x, xs[i]? = some x := fun i hi => ⟨_, List.getElem?_eq_getElem (by omega)⟩
  obtain ⟨x0, g0⟩ := g 0 (by omega)
  obtain ⟨x1, g1⟩ := g 1 (by omega)
  obtain ⟨x2, g2⟩ := g 2 (by omega)
  obtain ⟨x3, g3⟩ := g 3 (by omega)
  obtain ⟨x4, g4⟩ := g 4 (by omega)
  have h0 : DataW.trod enc Tryz.prog W base (fun _ => true) held k 9 (([c0, c1, c2, c3, c4, c5, c6].drop 0).take (Tryz.prog.cellsOf 9)) = xs[0]? := hf 0 _ rfl
  have h1 : DataW.trod enc Tryz.prog W base (fun _ => true) held k 3 (([c0, c1, c2, c3, c4, c5, c6].drop 1).take (Tryz.prog.cellsOf 3)) = xs[1]? := hf 1 _ rfl
  have h2 : DataW.trod enc Tryz.prog W base (fun _ => true) held k 3 (([c0, c1, c2, c3, c4, c5, c6].drop 2).take (Tryz.prog.cellsOf 3)) = xs[2]? := hf 2 _ rfl
  have h3 : DataW.trod enc Tryz.prog W base (fun _ => true) held k 3 (([c0, c1, c2, c3, c4, c5, c6].drop 3).take (Tryz.prog.cellsOf 3)) = xs[3]? := hf 3 _ rfl
  have h4 : DataW.trod enc Tryz.prog W base (fun _ => true) held k 26 (([c0, c1, c2, c3, c4, c5, c6].drop 4).take (Tryz.prog.cellsOf 26)) = xs[4]? := hf 4 _ rfl
  rw [cellsTsS, g0] at h0
  rw [cellsTsI, g1] at h1
  rw [cellsTsI, g2] at h2
  rw [cellsTsI, g3] at h3
  rw [cellsTsC, g4] at h4
  have h0 : DataW.trod enc Tryz.prog W base (fun _ => true) held k 9 [c0] = some x0 := h0
  have h1 : DataW.trod enc Tryz.prog W base (fun _ => true) held k 3 [c1] = some x1 := h1
  have h2 : DataW.trod enc Tryz.prog W base (fun _ => true) held k 3 [c2] = some x2 := h2
  have h3 : DataW.trod enc Tryz.prog W base (fun _ => true) held k 3 [c3] = some x3 := h3
  have h4 : DataW.trod enc Tryz.prog W base (fun _ => true) held k 26 [c4, c5, c6] = some x4 := h4
  obtain ⟨nm, e0, _, w0⟩ := DataW.trod_string Tryz.underlying9 h0
  obtain ⟨a1, e1, _, _⟩ := DataW.trod_int Tryz.underlying3 h1
  obtain ⟨a2, e2, _, _⟩ := DataW.trod_int Tryz.underlying3 h2
  obtain ⟨a3, e3, _, _⟩ := DataW.trod_int Tryz.underlying3 h3
  obtain ⟨k2, hk2⟩ := fields_of1 Tryz.underlying26 (by kernel_rfl) rfl h4
  obtain ⟨d0, y0, z0, t0⟩ := hk2 0 _ rfl
  obtain ⟨d1, y1, z1, t1⟩ := hk2 1 _ rfl
  obtain ⟨d2, y2, z2, t2⟩ := hk2 2 _ rfl
  obtain ⟨b0, u0, _, _⟩ := DataW.trod_int Tryz.underlying3 t0
  obtain ⟨b1, u1, _, _⟩ := DataW.trod_int Tryz.underlying3 t1
  obtain ⟨b2, u2, _, _⟩ := DataW.trod_int Tryz.underlying3 t2
  simp only [List.getElem?_cons_zero, List.getElem?_cons_succ, Option.some.injEq] at z0 z1 z2
  simp only [List.cons.injEq, and_true] at e0 e1 e2 e3 u0 u1 u2
  subst z0 z1 z2 e0 e1 e2 e3 u0 u1 u2
  exact ⟨⟨nm, a1, a2, a3, b0, b1, b2⟩, rfl, by unfold maxLen at w0; exact w0⟩
set_option maxRecDepth 20000 in
/-- A task that is an argument. -/
theorem task_arg {H : Type} {enc : TypeId × Value → H} {W : World} {base b0 : Nat} {held : Bool} {r : Reach} {v : Value} {d : DataW H} {q : List MemPlace}
    (hv : Value.okWide Tryz.prog W r b0 81 v) (h : DataW.Trod enc Tryz.prog W base (fun _ => true) held 81 v d q) :
    ∃ x : Ts, v = .agg #[.string x.nm, .int .i64 x.h, .int .i64 x.c, .int .i64 x.d, .int .i64 x.dh, .int .i64 x.dc, .int .i64 x.dd] ∧ x.nm.size ≤ 9223372036854775807 := by
  obtain ⟨cs, rfl, hsz⟩ := okWide_struct Tryz.underlying81 hv
  obtain ⟨fuel, hf⟩ := h
  obtain ⟨x, e, hx⟩ := task_of (cs := cs.toList) (by rw [Array.length_toList, hsz, cellsTs]) (by simpa [Value.cells] using hf)
  refine ⟨x, ?_, hx⟩
  rw [← Array.toArray_toList (xs := cs), e]

end Go.Proofs.YticdccdkjepifaaGreat
