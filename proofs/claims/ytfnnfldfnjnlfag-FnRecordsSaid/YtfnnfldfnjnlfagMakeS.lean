/-
  What the law's copy of a list of lists answers (toIntSS): new memory that reads as the list did, at every list of at most 1048576 lists of at most 1048576 numbers; nothing that was there is written.
-/
import Derived.Test.YtfnnfldfnjnlfagRowS
namespace Go.Proofs.Ytfnnfldfnjnlfag
open Go.RowKit

theorem info_ints : (Try.prog.info? 68).map (fun i => (i.zero, i.size, i.bytes)) = some (some (.slice none 0 0), 1, 24) := by kernel_rfl

/-- A row of rows in new memory: the row of slices in block B, the numbers of each in a block behind it. -/
structure RowN (w : World) (B len : Nat) (zss : List (List Int)) : Prop where
  len_eq : zss.length = len
  small : len ≤ 9223372036854775807
  cells : ∀ i, i < len → ∃ g n, B < g ∧ w.cell? ⟨B, i, none⟩ = some (.slice (some ⟨g, 0, none⟩) n n) ∧ Row w (some ⟨g, 0, none⟩) n (nthS zss i)

theorem RowN.rowS {w : World} {B len : Nat} {zss : List (List Int)} (h : RowN w B len zss) : RowS w (some ⟨B, 0, none⟩) len zss := by
  refine ⟨h.len_eq, h.small, fun i hi => ?_⟩
  obtain ⟨g, n, _, hc, hr⟩ := h.cells i hi
  exact ⟨B, 0, _, n, n, rfl, by rw [Nat.zero_add]; exact hc, hr, Nat.le_refl _⟩
theorem RowN.below {w w' : World} {B len : Nat} {zss : List (List Int)} (h : RowN w B len zss) (k : Below w.heap.size w w') : RowN w' B len zss := by
  refine ⟨h.len_eq, h.small, fun i hi => ?_⟩
  obtain ⟨g, n, hg, hc, hr⟩ := h.cells i hi
  exact ⟨g, n, hg, (k.cell (block_lt_of_cell hc)).trans hc, hr.below k⟩
theorem RowN.setCell {w : World} {B len : Nat} {zss : List (List Int)} (h : RowN w B len zss) {p : Addr} (hp : p.block < B) (v : Value) : RowN (w.setCell p v) B len zss := by
  refine ⟨h.len_eq, h.small, fun i hi => ?_⟩
  obtain ⟨g, n, hg, hc, hr⟩ := h.cells i hi
  exact ⟨g, n, hg, (World.cell?_setCell_other w _ _ _ (by intro e; rw [e] at hp; exact absurd hp (Nat.lt_irrefl _))).trans hc, hr.setCell (by omega) v⟩

/-- After k rounds of the copying of lists; the new row lies in block B. -/
structure CopiedS (w wr : World) (B : Nat) (zss : List (List Int)) (k : Nat) : Prop where
  own : ∃ xs : List Value, wr.ownsRow B 68 1 (.slice (some ⟨B, 0, none⟩) zss.length zss.length) zss.length xs ∧ ∀ j, j < k → ∃ g, B < g ∧ xs[j]? = some (.slice (some ⟨g, 0, none⟩) (nthS zss j).length (nthS zss j).length) ∧ Row wr (some ⟨g, 0, none⟩) (nthS zss j).length (nthS zss j)
  bel : Below w.heap.size w wr
  here : B < wr.heap.size
  old : w.heap.size ≤ B

theorem CopiedS.here_ {w wr : World} {B : Nat} {zss : List (List Int)} {k : Nat} (h : CopiedS w wr B zss k) (hk : k < zss.length) :
    (∃ v, wr.cell? ⟨B, k, none⟩ = some v) ∧ wr.frozen? ⟨B, k, none⟩ = false := by
  obtain ⟨xs, ho, _⟩ := h.own
  refine ⟨?_, ho.frozenAt k⟩
  rw [ho.cellAt k (by omega)]
  have := ho.1
  exact ⟨xs[k]'(by omega), List.getElem?_eq_getElem (by omega)⟩

/-- A call that makes memory leaves it so. -/
theorem CopiedS.call {w wr w' : World} {B : Nat} {zss : List (List Int)} {k : Nat} (h : CopiedS w wr B zss k) (b : Below wr.heap.size wr w') : CopiedS w w' B zss k := by
  obtain ⟨xs, ho, hx⟩ := h.own
  refine ⟨⟨xs, ownsRow_below ho b, fun j hj => ?_⟩, h.bel.trans (b.mono h.bel.size), Nat.lt_of_lt_of_le h.here b.size, h.old⟩
  obtain ⟨g, hg, e, r⟩ := hx j hj
  exact ⟨g, hg, e, r.below b⟩

theorem CopiedS.step {w wr : World} {B : Nat} {zss : List (List Int)} {k g : Nat} (h : CopiedS w wr B zss k) (hk : k < zss.length) (hg : B < g) (hr : Row wr (some ⟨g, 0, none⟩) (nthS zss k).length (nthS zss k)) :
    CopiedS w (wr.setCell ⟨B, k, none⟩ (.slice (some ⟨g, 0, none⟩) (nthS zss k).length (nthS zss k).length)) B zss (k + 1) := by
  obtain ⟨xs, ho, hx⟩ := h.own
  refine ⟨⟨_, (ho.stored k _).1, fun j hj => ?_⟩, h.bel.setCell h.old _, by have := h.here; simpa [World.setCell] using this, h.old⟩
  have hl := ho.1
  by_cases e : j = k
  · subst e
    exact ⟨g, hg, by rw [List.getElem?_set_self (by omega)], hr.setCell (by simp; omega) _⟩
  · obtain ⟨g', hg', e', r'⟩ := hx j (by omega)
    exact ⟨g', hg', by rw [List.getElem?_set_ne (by omega)]; exact e', r'.setCell (by simp; omega) _⟩

theorem CopiedS.row {w wr : World} {B : Nat} {zss : List (List Int)} (h : CopiedS w wr B zss zss.length) (hs : zss.length ≤ 1048576) :
    RowN wr B zss.length zss := by
  obtain ⟨xs, ho, hx⟩ := h.own
  refine ⟨rfl, by omega, fun i hi => ?_⟩
  obtain ⟨g, hg, e, r⟩ := hx i hi
  refine ⟨g, _, hg, ?_, r⟩
  rw [ho.cellAt i (by omega), e]

end Go.Proofs.Ytfnnfldfnjnlfag
