/-
  What the law's copy of a list of whole numbers answers (toIntS): a new slice that reads as the list did, at every list of at most 1048576 numbers; nothing that was there is written.
-/
import Derived.Test.YtomcbbpaajpeiaaSmall
namespace Go.Proofs.Ytomcbbpaajpeiaa
open Go.RowKit

theorem info_int : (Try.prog.info? 3).map (fun i => (i.zero, i.size, i.bytes)) = some (some (.int .i64 0), 1, 8) := by kernel_rfl

/-- After k rounds of the copying. -/
structure Copied (w wr : World) (zs : List Int) (k : Nat) : Prop where
  own : ∃ xs : List Value, wr.ownsRow w.heap.size 3 1 (.slice (some ⟨w.heap.size, 0, none⟩) zs.length zs.length) zs.length xs ∧ ∀ j, j < k → xs[j]? = some (.int .i64 (nth zs j))
  bel : Below w.heap.size w wr

theorem Copied.here {w wr : World} {zs : List Int} {k : Nat} (h : Copied w wr zs k) (hk : k < zs.length) :
    (∃ v, wr.cell? ⟨w.heap.size, k, none⟩ = some v) ∧ wr.frozen? ⟨w.heap.size, k, none⟩ = false := by
  obtain ⟨xs, ho, _⟩ := h.own
  refine ⟨?_, ho.frozenAt k⟩
  rw [ho.cellAt k (by omega)]
  have := ho.1
  exact ⟨xs[k]'(by omega), List.getElem?_eq_getElem (by omega)⟩

theorem Copied.step {w wr : World} {zs : List Int} {k : Nat} (h : Copied w wr zs k) (hk : k < zs.length) :
    Copied w (wr.setCell ⟨w.heap.size, k, none⟩ (.int .i64 (nth zs k))) zs (k + 1) := by
  obtain ⟨xs, ho, hx⟩ := h.own
  refine ⟨⟨_, (ho.stored k _).1, fun j hj => ?_⟩, h.bel.setCell (Nat.le_refl _) _⟩
  have hl := ho.1
  by_cases e : j = k
  · subst e; rw [List.getElem?_set_self (by omega)]
  · rw [List.getElem?_set_ne (by omega)]; exact hx j (by omega)

theorem Copied.row {w wr : World} {zs : List Int} (h : Copied w wr zs zs.length) (hs : zs.length ≤ 1048576) (hf : ∀ i : Nat, -9223372036854775808 ≤ nth zs i ∧ nth zs i ≤ 9223372036854775807) :
    Row wr (some ⟨w.heap.size, 0, none⟩) zs.length zs := by
  obtain ⟨xs, ho, hx⟩ := h.own
  refine ⟨rfl, by omega, fun i hi => ⟨_, _, rfl, ?_⟩, hf⟩
  rw [Nat.zero_add, ho.cellAt i (by omega), hx i hi]

end Go.Proofs.Ytomcbbpaajpeiaa
