/-
  How an argument is opened that is a struct of one-cell fields, or a slice of such. No condition.
-/
import Derived.Test.YtemodlgmjgdjpaaGreatDoorRowE
import Derived.Lib.SmallJoins
import Derived.Deep.SlicePairs
namespace Go.Proofs.YtemodlgmjgdjpaaGreatDoor
open Go.ChangeShapes Go.WideShapes Go.ChangeAt Go.RowKit Go.Joins Go.Deep

section
variable {H : Type} {enc : TypeId × Value → H} {P : Program} {W : World} {base : Nat} {spare : Nat → Bool} {held : Bool}

/-- The cells of a struct whose fields take one each. -/
theorem fields_of1 {e : TypeId} {fs : Array Field} {n : Nat} {cs : List Value} {y : DataW H × List MemPlace} (he : P.underlying e = some (.struct fs)) (hone : oneCellFields P fs = true) (hl : cs.length = fs.size)
    (h : DataW.trod enc P W base spare held n e cs = some y) : ∃ k, ∀ (i : Nat) (f : Field), fs[i]? = some f → ∃ c y', cs[i]? = some c ∧ DataW.trod enc P W base spare held k f.type [c] = some y' := by
  obtain ⟨xs, k, _, _, _, hlen, hf⟩ := DataW.trod_struct he h
  refine ⟨k, fun i f hi => ?_⟩
  have hi' : i < fs.size := by
    rcases Nat.lt_or_ge i fs.size with hlt | hge
    · exact hlt
    · rw [Array.getElem?_eq_none hge] at hi; cases hi
  obtain ⟨o, c⟩ := hone_of hone i f hi
  have h1 := hf i f hi
  rw [o, c, List.drop_eq_getElem_cons (by omega), List.take_succ_cons, List.take_zero, List.getElem?_eq_getElem (by omega)] at h1
  exact ⟨_, _, List.getElem?_eq_getElem (by omega), h1⟩

/-- The same of an argument. -/
theorem agg_of1 {r : Reach} {b0 : Nat} {t : TypeId} {fs : Array Field} {v : Value} {d : DataW H} {p : List MemPlace} (hs : P.underlying t = some (.struct fs)) (hone : oneCellFields P fs = true) (hC : P.cellsOf t = fs.size)
    (hv : Value.okWide P W r b0 t v) (h : DataW.Trod enc P W base spare held t v d p) :
    ∃ cs k, v = .agg cs ∧ cs.size = fs.size ∧ ∀ (i : Nat) (f : Field), fs[i]? = some f → ∃ c y', cs[i]? = some c ∧ DataW.trod enc P W base spare held k f.type [c] = some y' := by
  obtain ⟨cs, rfl, hsz⟩ := okWide_struct hs hv
  obtain ⟨fuel, hf⟩ := h
  obtain ⟨k, hk⟩ := fields_of1 hs hone (by simpa [Value.cells] using hsz.trans hC) hf
  exact ⟨cs, k, rfl, hsz.trans hC, fun i f hi => by simpa [Value.cells] using hk i f hi⟩

/-- A slice whose elements take K cells. -/
theorem rowE_of {α : Type} [Inhabited α] {K : Nat} {cells : α → Nat → Value} {Pr : α → Prop} {t e : TypeId} {fuel : Nat} {v : Value} {y : DataW H × List MemPlace} (ht : P.underlying t = some (.slice e)) (ce : P.cellsOf e = K) (hK : 0 < K)
    (hel : ∀ n cs y, cs.length = K → DataW.trod enc P W base (fun _ => true) held n e cs = some y → ∃ x : α, Pr x ∧ ∀ q, q < K → cs[q]? = some (cells x q))
    (h : DataW.trod enc P W base (fun _ => true) held fuel t [v] = some y) :
    ∃ a len cap ps, v = .slice a len cap ∧ RowE K cells W a len ps ∧ len ≤ cap ∧ ∀ i, i < len → Pr (elAt ps i) := by
  rcases open_slice ht h with ⟨hcs, _⟩ | ⟨x, l, c, m, n, D, Pl, hcs, _, hl, hm, hmm, _, hx⟩
  · simp at hcs
    exact ⟨_, _, _, [], hcs, ⟨rfl, by omega, fun i hi => by omega⟩, Nat.le_refl _, fun i hi => by omega⟩
  · simp at hcs
    simp only [↓reduceIte] at hmm
    unfold maxLen at hm
    subst hmm
    have each : ∀ i, i < l → ∃ z : α, Pr z ∧ ∀ q, q < K → W.cell? (x.add (i * K + q)) = some (cells z q) := by
      intro i hi
      obtain ⟨cs', h1, h2⟩ := hx i (by omega)
      rw [ce] at h1
      obtain ⟨_, hlen, hcell⟩ := World.cells?_some h1
      obtain ⟨z, hz, hq⟩ := hel _ _ _ hlen h2
      refine ⟨z, hz, fun q hqk => ?_⟩
      have h3 := hcell q hqk
      rw [add_add] at h3
      rw [h3]
      exact hq q hqk
    obtain ⟨f, hf⟩ := choose_lt each
    have hn : ∀ i, i < l → elAt ((List.range l).map f) i = f i := by
      intro i hi
      simp [elAt, hi]
    refine ⟨_, _, _, (List.range l).map f, hcs, ⟨by simp, by omega, fun i hi => ?_⟩, hl, fun i hi => by rw [hn i hi]; exact (hf i hi).1⟩
    obtain ⟨b, off, spot⟩ := x
    have h0 := (hf 0 (by omega)).2 0 hK
    have hspot : spot = none := by simpa [Addr.add] using World.cell?_spot h0
    subst hspot
    refine ⟨b, off, rfl, fun q hq => ?_⟩
    rw [hn i hi, ← (hf i hi).2 q hq]
    have e : (⟨b, off, none⟩ : Addr).add (i * K + q) = ⟨b, off + i * K + q, none⟩ := by
      unfold Addr.add
      split
      · rename_i h
        rw [Nat.add_assoc, h]; rfl
      · simp [Nat.add_assoc]
    rw [e]
end

end Go.Proofs.YtemodlgmjgdjpaaGreatDoor
