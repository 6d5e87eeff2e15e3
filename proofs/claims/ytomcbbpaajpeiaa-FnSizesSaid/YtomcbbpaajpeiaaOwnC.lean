/-
  A slice of pairs of floats that a call has made: it owns its memory, from a block on. No condition.
-/
import Derived.Test.YtomcbbpaajpeiaaRowC
import Derived.Test.YtomcbbpaajpeiaaOwn2
import Derived.Laws.AppendOwn
namespace Go.Proofs.Ytomcbbpaajpeiaa
open Go.RowKit

structure OwnC (w : World) (base : Nat) (T : TypeId) (v : Value) (ps : List (Nat × Nat)) : Prop where
  own : ∃ xs : List Value, w.ownsRow base T 2 v ps.length xs ∧ ∀ j, j < ps.length → xs[j * 2]? = some (.float .f64 (reAt ps j)) ∧ xs[j * 2 + 1]? = some (.float .f64 (imAt ps j))

/-- What such a value looks like. -/
theorem OwnC.form {w : World} {base : Nat} {T : TypeId} {v : Value} {ps : List (Nat × Nat)} (h : OwnC w base T v ps) :
    (v = .slice none 0 0 ∧ ps = []) ∨ ∃ g cap, v = .slice (some ⟨g, 0, none⟩) ps.length cap ∧ base ≤ g ∧ g < w.heap.size ∧ ps.length ≤ cap ∧ cap ≤ maxLen := by
  obtain ⟨xs, ho, _⟩ := h.own
  rcases ho.2 with ⟨hv, h0⟩ | ⟨g, cap, cur, hv, hb, hg, hc, hm, _⟩
  · exact .inl ⟨hv, List.length_eq_zero_iff.1 h0⟩
  · refine .inr ⟨g, cap, hv, hb, ?_, hc, hm⟩
    rcases Nat.lt_or_ge g w.heap.size with hlt | hge
    · exact hlt
    · rw [Array.getElem?_eq_none hge] at hg; cases hg

theorem OwnC.slice {w : World} {base : Nat} {T : TypeId} {v : Value} {ps : List (Nat × Nat)} (h : OwnC w base T v ps) : ∃ a cap, v = .slice a ps.length cap ∧ ps.length ≤ cap ∧ RowC w a ps.length ps := by
  obtain ⟨xs, ho, hx⟩ := h.own
  rcases h.form with ⟨rfl, h0⟩ | ⟨g, cap, rfl, _, _, hc, hm⟩
  · subst h0; exact ⟨none, 0, rfl, Nat.le_refl _, ⟨rfl, by simp, fun i hi => by simp at hi⟩⟩
  · refine ⟨_, cap, rfl, hc, ⟨rfl, ?_, fun i hi => ⟨_, _, rfl, ?_, ?_⟩⟩⟩
    · unfold maxLen at hm; omega
    · rw [Nat.zero_add, ho.cellAt (i * 2) (by omega)]; exact (hx i hi).1
    · rw [Nat.zero_add, ho.cellAt (i * 2 + 1) (by omega)]; exact (hx i hi).2

theorem OwnC.row {w : World} {base : Nat} {T : TypeId} {a : Option Addr} {len cap : Nat} {ps : List (Nat × Nat)} (h : OwnC w base T (.slice a len cap) ps) : RowC w a len ps := by
  obtain ⟨a', cap', e, _, hr⟩ := h.slice
  simp only [Value.slice.injEq] at e
  obtain ⟨rfl, rfl, rfl⟩ := e
  exact hr

theorem OwnC.below {w w' : World} {base : Nat} {T : TypeId} {v : Value} {ps : List (Nat × Nat)} (h : OwnC w base T v ps) (k : Below w.heap.size w w') : OwnC w' base T v ps := by
  obtain ⟨xs, ho, hx⟩ := h.own
  exact ⟨⟨xs, ownsRow_below ho k, hx⟩⟩
theorem OwnC.drewN {w : World} {base : Nat} {T : TypeId} {v : Value} {ps : List (Nat × Nat)} (h : OwnC w base T v ps) (n : Nat) : OwnC (w.drewN n) base T v ps := h.below (bel0d n)
theorem OwnC.mono {w : World} {base base' : Nat} {T : TypeId} {v : Value} {ps : List (Nat × Nat)} (h : OwnC w base T v ps) (hb : base' ≤ base) : OwnC w base' T v ps := by
  obtain ⟨xs, ⟨h1, h2⟩, hx⟩ := h.own
  refine ⟨⟨xs, ⟨h1, ?_⟩, hx⟩⟩
  rcases h2 with h2 | ⟨g, cap, cur, a, b, c⟩
  · exact .inl h2
  · exact .inr ⟨g, cap, cur, a, by omega, c⟩

/-- Another block's turning leaves it. -/
theorem OwnC.far {w w' : World} {base : Nat} {T : TypeId} {v : Value} {ps : List (Nat × Nat)} {row : Option Nat} (h : OwnC w base T v ps) (k : w.grownBy w' row) (hne : ∀ g, v.ownBlock = some g → some g ≠ row) : OwnC w' base T v ps := by
  obtain ⟨xs, ⟨h1, h2⟩, hx⟩ := h.own
  refine ⟨⟨xs, ⟨h1, ?_⟩, hx⟩⟩
  rcases h2 with h2 | ⟨g, cap, cur, rfl, b, c, d⟩
  · exact .inl h2
  · refine .inr ⟨g, cap, cur, rfl, b, ?_, d⟩
    have hg : g < w.heap.size := by
      rcases Nat.lt_or_ge g w.heap.size with hlt | hge
      · exact hlt
      · rw [Array.getElem?_eq_none hge] at c; cases c
    rw [k.block g hg (hne g rfl)]; exact c
theorem RowC.far {w w' : World} {g off len : Nat} {ps : List (Nat × Nat)} {row : Option Nat} (h : RowC w (some ⟨g, off, none⟩) len ps) (k : w.grownBy w' row) (hne : some g ≠ row) : RowC w' (some ⟨g, off, none⟩) len ps := by
  refine ⟨h.len_eq, h.small, fun i hi => ?_⟩
  obtain ⟨b, off', ha, hc, hd⟩ := h.cells i hi
  simp only [Option.some.injEq, Addr.mk.injEq, and_true] at ha
  obtain ⟨rfl, rfl⟩ := ha
  have hb := block_lt_of_cell hc
  have hk := k.block g hb hne
  exact ⟨_, _, rfl, (World.cell?_of_block (a := ⟨g, off + i * 2, none⟩) hk).trans hc, (World.cell?_of_block (a := ⟨g, off + i * 2 + 1, none⟩) hk).trans hd⟩

/-- One cell of it may be read and written. -/
theorem OwnC.here {w : World} {base : Nat} {T : TypeId} {g cap : Nat} {ps : List (Nat × Nat)} (h : OwnC w base T (.slice (some ⟨g, 0, none⟩) ps.length cap) ps) (i : Nat) (hi : i < ps.length) :
    (w.cell? ⟨g, i * 2, none⟩ = some (.float .f64 (reAt ps i)) ∧ w.cell? ⟨g, i * 2 + 1, none⟩ = some (.float .f64 (imAt ps i))) ∧ w.frozen? ⟨g, i * 2, none⟩ = false ∧ w.frozen? ⟨g, i * 2 + 1, none⟩ = false := by
  obtain ⟨xs, ho, hx⟩ := h.own
  refine ⟨⟨?_, ?_⟩, ho.frozenAt _, ho.frozenAt _⟩
  · rw [ho.cellAt (i * 2) (by omega)]; exact (hx i hi).1
  · rw [ho.cellAt (i * 2 + 1) (by omega)]; exact (hx i hi).2

theorem reAt_set (ps : List (Nat × Nat)) (i j : Nat) (a b : Nat) (hi : i < ps.length) : reAt (ps.set i (a, b)) j = if j = i then a else reAt ps j := by
  unfold reAt
  by_cases e : j = i
  · subst e; rw [List.getElem?_set_self hi]; simp
  · rw [List.getElem?_set_ne (by omega)]; simp [e]
theorem imAt_set (ps : List (Nat × Nat)) (i j : Nat) (a b : Nat) (hi : i < ps.length) : imAt (ps.set i (a, b)) j = if j = i then b else imAt ps j := by
  unfold imAt
  by_cases e : j = i
  · subst e; rw [List.getElem?_set_self hi]; simp
  · rw [List.getElem?_set_ne (by omega)]; simp [e]

/-- A store into the first number of a pair. -/
theorem OwnC.setFst {w : World} {base : Nat} {T : TypeId} {g cap : Nat} {ps : List (Nat × Nat)} (h : OwnC w base T (.slice (some ⟨g, 0, none⟩) ps.length cap) ps) (i : Nat) (hi : i < ps.length) (a : Nat) :
    OwnC (w.setCell ⟨g, i * 2, none⟩ (.float .f64 a)) base T (.slice (some ⟨g, 0, none⟩) ps.length cap) (ps.set i (a, imAt ps i)) := by
  obtain ⟨xs, ho, hx⟩ := h.own
  have hl := ho.1
  have o1 := (ho.stored (i * 2) (.float .f64 a)).1
  refine ⟨⟨_, by rw [List.length_set]; exact o1, fun j hj => ?_⟩⟩
  · rw [List.length_set] at hj
    rw [reAt_set _ _ _ _ _ hi, imAt_set _ _ _ _ _ hi]
    by_cases e : j = i
    · subst e
      rw [if_pos rfl, if_pos rfl]
      exact ⟨List.getElem?_set_self (by omega), by rw [List.getElem?_set_ne (by omega)]; exact (hx j hj).2⟩
    · rw [if_neg e, if_neg e]
      exact ⟨by rw [List.getElem?_set_ne (by omega)]; exact (hx j hj).1, by rw [List.getElem?_set_ne (by omega)]; exact (hx j hj).2⟩
/-- A store into the second. -/
theorem OwnC.setSnd {w : World} {base : Nat} {T : TypeId} {g cap : Nat} {ps : List (Nat × Nat)} (h : OwnC w base T (.slice (some ⟨g, 0, none⟩) ps.length cap) ps) (i : Nat) (hi : i < ps.length) (a : Nat) :
    OwnC (w.setCell ⟨g, i * 2 + 1, none⟩ (.float .f64 a)) base T (.slice (some ⟨g, 0, none⟩) ps.length cap) (ps.set i (reAt ps i, a)) := by
  obtain ⟨xs, ho, hx⟩ := h.own
  have hl := ho.1
  have o1 := (ho.stored (i * 2 + 1) (.float .f64 a)).1
  refine ⟨⟨_, by rw [List.length_set]; exact o1, fun j hj => ?_⟩⟩
  · rw [List.length_set] at hj
    rw [reAt_set _ _ _ _ _ hi, imAt_set _ _ _ _ _ hi]
    by_cases e : j = i
    · subst e
      rw [if_pos rfl, if_pos rfl]
      exact ⟨by rw [List.getElem?_set_ne (by omega)]; exact (hx j hj).1, List.getElem?_set_self (by omega)⟩
    · rw [if_neg e, if_neg e]
      exact ⟨by rw [List.getElem?_set_ne (by omega)]; exact (hx j hj).1, by rw [List.getElem?_set_ne (by omega)]; exact (hx j hj).2⟩

end Go.Proofs.Ytomcbbpaajpeiaa
