/-
  A slice of pairs of whole numbers that a call has made: it owns its memory, from a block on. No condition.
-/
import Derived.Test.YtomcbbpaajpeiaaRow2
import Derived.Laws.AppendOwn
namespace Go.Proofs.Ytomcbbpaajpeiaa
open Go.RowKit

def Fit2 (ps : List (Int × Int)) : Prop := ∀ i : Nat, (-9223372036854775808 ≤ fstAt ps i ∧ fstAt ps i ≤ 9223372036854775807) ∧ (-9223372036854775808 ≤ sndAt ps i ∧ sndAt ps i ≤ 9223372036854775807)

structure Own2 (w : World) (base : Nat) (T : TypeId) (v : Value) (ps : List (Int × Int)) : Prop where
  own : ∃ xs : List Value, w.ownsRow base T 2 v ps.length xs ∧ ∀ j, j < ps.length → xs[j * 2]? = some (.int .i64 (fstAt ps j)) ∧ xs[j * 2 + 1]? = some (.int .i64 (sndAt ps j))
  fit : Fit2 ps

/-- What such a value looks like. -/
theorem Own2.form {w : World} {base : Nat} {T : TypeId} {v : Value} {ps : List (Int × Int)} (h : Own2 w base T v ps) :
    (v = .slice none 0 0 ∧ ps = []) ∨ ∃ g cap, v = .slice (some ⟨g, 0, none⟩) ps.length cap ∧ base ≤ g ∧ g < w.heap.size ∧ ps.length ≤ cap ∧ cap ≤ maxLen := by
  obtain ⟨xs, ho, _⟩ := h.own
  rcases ho.2 with ⟨hv, h0⟩ | ⟨g, cap, cur, hv, hb, hg, hc, hm, _⟩
  · exact .inl ⟨hv, List.length_eq_zero_iff.1 h0⟩
  · refine .inr ⟨g, cap, hv, hb, ?_, hc, hm⟩
    rcases Nat.lt_or_ge g w.heap.size with hlt | hge
    · exact hlt
    · rw [Array.getElem?_eq_none hge] at hg; cases hg

theorem Own2.slice {w : World} {base : Nat} {T : TypeId} {v : Value} {ps : List (Int × Int)} (h : Own2 w base T v ps) : ∃ a cap, v = .slice a ps.length cap ∧ ps.length ≤ cap ∧ Row2 w a ps.length ps := by
  have hf := h.fit
  obtain ⟨xs, ho, hx⟩ := h.own
  rcases h.form with ⟨rfl, h0⟩ | ⟨g, cap, rfl, _, _, hc, hm⟩
  · subst h0; exact ⟨none, 0, rfl, Nat.le_refl _, ⟨rfl, by simp, fun i hi => by simp at hi, hf⟩⟩
  · refine ⟨_, cap, rfl, hc, ⟨rfl, ?_, fun i hi => ⟨_, _, rfl, ?_, ?_⟩, hf⟩⟩
    · unfold maxLen at hm; omega
    · rw [Nat.zero_add, ho.cellAt (i * 2) (by omega)]; exact (hx i hi).1
    · rw [Nat.zero_add, ho.cellAt (i * 2 + 1) (by omega)]; exact (hx i hi).2

theorem Own2.row {w : World} {base : Nat} {T : TypeId} {a : Option Addr} {len cap : Nat} {ps : List (Int × Int)} (h : Own2 w base T (.slice a len cap) ps) : Row2 w a len ps := by
  obtain ⟨a', cap', e, _, hr⟩ := h.slice
  simp only [Value.slice.injEq] at e
  obtain ⟨rfl, rfl, rfl⟩ := e
  exact hr

theorem Own2.below {w w' : World} {base : Nat} {T : TypeId} {v : Value} {ps : List (Int × Int)} (h : Own2 w base T v ps) (k : Below w.heap.size w w') : Own2 w' base T v ps := by
  obtain ⟨xs, ho, hx⟩ := h.own
  exact ⟨⟨xs, ownsRow_below ho k, hx⟩, h.fit⟩
theorem Own2.drewN {w : World} {base : Nat} {T : TypeId} {v : Value} {ps : List (Int × Int)} (h : Own2 w base T v ps) (n : Nat) : Own2 (w.drewN n) base T v ps := h.below (bel0d n)
theorem Own2.mono {w : World} {base base' : Nat} {T : TypeId} {v : Value} {ps : List (Int × Int)} (h : Own2 w base T v ps) (hb : base' ≤ base) : Own2 w base' T v ps := by
  obtain ⟨xs, ⟨h1, h2⟩, hx⟩ := h.own
  refine ⟨⟨xs, ⟨h1, ?_⟩, hx⟩, h.fit⟩
  rcases h2 with h2 | ⟨g, cap, cur, a, b, c⟩
  · exact .inl h2
  · exact .inr ⟨g, cap, cur, a, by omega, c⟩

/-- Another block's turning leaves it. -/
theorem Own2.far {w w' : World} {base : Nat} {T : TypeId} {v : Value} {ps : List (Int × Int)} {row : Option Nat} (h : Own2 w base T v ps) (k : w.grownBy w' row) (hne : ∀ g, v.ownBlock = some g → some g ≠ row) : Own2 w' base T v ps := by
  obtain ⟨xs, ⟨h1, h2⟩, hx⟩ := h.own
  refine ⟨⟨xs, ⟨h1, ?_⟩, hx⟩, h.fit⟩
  rcases h2 with h2 | ⟨g, cap, cur, rfl, b, c, d⟩
  · exact .inl h2
  · refine .inr ⟨g, cap, cur, rfl, b, ?_, d⟩
    have hg : g < w.heap.size := by
      rcases Nat.lt_or_ge g w.heap.size with hlt | hge
      · exact hlt
      · rw [Array.getElem?_eq_none hge] at c; cases c
    rw [k.block g hg (hne g rfl)]; exact c
theorem Row2.far {w w' : World} {g off len : Nat} {ps : List (Int × Int)} {row : Option Nat} (h : Row2 w (some ⟨g, off, none⟩) len ps) (k : w.grownBy w' row) (hne : some g ≠ row) : Row2 w' (some ⟨g, off, none⟩) len ps := by
  refine ⟨h.len_eq, h.small, fun i hi => ?_, h.fit⟩
  obtain ⟨b, off', ha, hc, hd⟩ := h.cells i hi
  simp only [Option.some.injEq, Addr.mk.injEq, and_true] at ha
  obtain ⟨rfl, rfl⟩ := ha
  have hb := block_lt_of_cell hc
  have hk := k.block g hb hne
  exact ⟨_, _, rfl, (World.cell?_of_block (a := ⟨g, off + i * 2, none⟩) hk).trans hc, (World.cell?_of_block (a := ⟨g, off + i * 2 + 1, none⟩) hk).trans hd⟩

/-- One cell of it may be read and written. -/
theorem Own2.here {w : World} {base : Nat} {T : TypeId} {g cap : Nat} {ps : List (Int × Int)} (h : Own2 w base T (.slice (some ⟨g, 0, none⟩) ps.length cap) ps) (i : Nat) (hi : i < ps.length) :
    (w.cell? ⟨g, i * 2, none⟩ = some (.int .i64 (fstAt ps i)) ∧ w.cell? ⟨g, i * 2 + 1, none⟩ = some (.int .i64 (sndAt ps i))) ∧ w.frozen? ⟨g, i * 2, none⟩ = false ∧ w.frozen? ⟨g, i * 2 + 1, none⟩ = false := by
  obtain ⟨xs, ho, hx⟩ := h.own
  refine ⟨⟨?_, ?_⟩, ho.frozenAt _, ho.frozenAt _⟩
  · rw [ho.cellAt (i * 2) (by omega)]; exact (hx i hi).1
  · rw [ho.cellAt (i * 2 + 1) (by omega)]; exact (hx i hi).2

theorem fstAt_set (ps : List (Int × Int)) (i j : Nat) (a b : Int) (hi : i < ps.length) : fstAt (ps.set i (a, b)) j = if j = i then a else fstAt ps j := by
  unfold fstAt
  by_cases e : j = i
  · subst e; rw [List.getElem?_set_self hi]; simp
  · rw [List.getElem?_set_ne (by omega)]; simp [e]
theorem sndAt_set (ps : List (Int × Int)) (i j : Nat) (a b : Int) (hi : i < ps.length) : sndAt (ps.set i (a, b)) j = if j = i then b else sndAt ps j := by
  unfold sndAt
  by_cases e : j = i
  · subst e; rw [List.getElem?_set_self hi]; simp
  · rw [List.getElem?_set_ne (by omega)]; simp [e]

/-- A store into the first number of a pair. -/
theorem Own2.setFst {w : World} {base : Nat} {T : TypeId} {g cap : Nat} {ps : List (Int × Int)} (h : Own2 w base T (.slice (some ⟨g, 0, none⟩) ps.length cap) ps) (i : Nat) (hi : i < ps.length) (a : Int) (ha : -9223372036854775808 ≤ a ∧ a ≤ 9223372036854775807) :
    Own2 (w.setCell ⟨g, i * 2, none⟩ (.int .i64 a)) base T (.slice (some ⟨g, 0, none⟩) ps.length cap) (ps.set i (a, sndAt ps i)) := by
  have hf := h.fit
  obtain ⟨xs, ho, hx⟩ := h.own
  have hl := ho.1
  have o1 := (ho.stored (i * 2) (.int .i64 a)).1
  refine ⟨⟨_, by rw [List.length_set]; exact o1, fun j hj => ?_⟩, fun j => ?_⟩
  · rw [List.length_set] at hj
    rw [fstAt_set _ _ _ _ _ hi, sndAt_set _ _ _ _ _ hi]
    by_cases e : j = i
    · subst e
      rw [if_pos rfl, if_pos rfl]
      exact ⟨List.getElem?_set_self (by omega), by rw [List.getElem?_set_ne (by omega)]; exact (hx j hj).2⟩
    · rw [if_neg e, if_neg e]
      exact ⟨by rw [List.getElem?_set_ne (by omega)]; exact (hx j hj).1, by rw [List.getElem?_set_ne (by omega)]; exact (hx j hj).2⟩
  · rw [fstAt_set _ _ _ _ _ hi, sndAt_set _ _ _ _ _ hi]
    by_cases e : j = i
    · rw [if_pos e, if_pos e]; exact ⟨ha, (hf i).2⟩
    · rw [if_neg e, if_neg e]; exact hf j
/-- A store into the second. -/
theorem Own2.setSnd {w : World} {base : Nat} {T : TypeId} {g cap : Nat} {ps : List (Int × Int)} (h : Own2 w base T (.slice (some ⟨g, 0, none⟩) ps.length cap) ps) (i : Nat) (hi : i < ps.length) (a : Int) (ha : -9223372036854775808 ≤ a ∧ a ≤ 9223372036854775807) :
    Own2 (w.setCell ⟨g, i * 2 + 1, none⟩ (.int .i64 a)) base T (.slice (some ⟨g, 0, none⟩) ps.length cap) (ps.set i (fstAt ps i, a)) := by
  have hf := h.fit
  obtain ⟨xs, ho, hx⟩ := h.own
  have hl := ho.1
  have o1 := (ho.stored (i * 2 + 1) (.int .i64 a)).1
  refine ⟨⟨_, by rw [List.length_set]; exact o1, fun j hj => ?_⟩, fun j => ?_⟩
  · rw [List.length_set] at hj
    rw [fstAt_set _ _ _ _ _ hi, sndAt_set _ _ _ _ _ hi]
    by_cases e : j = i
    · subst e
      rw [if_pos rfl, if_pos rfl]
      exact ⟨by rw [List.getElem?_set_ne (by omega)]; exact (hx j hj).1, List.getElem?_set_self (by omega)⟩
    · rw [if_neg e, if_neg e]
      exact ⟨by rw [List.getElem?_set_ne (by omega)]; exact (hx j hj).1, by rw [List.getElem?_set_ne (by omega)]; exact (hx j hj).2⟩
  · rw [fstAt_set _ _ _ _ _ hi, sndAt_set _ _ _ _ _ hi]
    by_cases e : j = i
    · rw [if_pos e, if_pos e]; exact ⟨(hf i).1, ha⟩
    · rw [if_neg e, if_neg e]; exact hf j

/-- Nothing but one block is written, and no block made below. -/
theorem grown_set {w wr : World} {g : Nat} (h : w.grownBy wr (some g)) (o : Nat) (u : Value) : w.grownBy (wr.setCell ⟨g, o, none⟩ u) (some g) :=
  ⟨h.os, h.tape, h.output, by have := h.size; simpa [World.setCell] using this, fun k hk hne => (Below.heap_setCell _ _ _ _ (by intro e; subst e; exact hne rfl)).trans (h.block k hk hne)⟩
theorem grown_refl (w : World) (row : Option Nat) : w.grownBy w row := ⟨rfl, rfl, rfl, Nat.le_refl _, fun _ _ _ => rfl⟩
theorem grown_drewN {w wr : World} {row : Option Nat} (h : w.grownBy wr row) (n : Nat) : w.grownBy (wr.drewN n) row := ⟨h.os, h.tape, h.output, h.size, h.block⟩

end Go.Proofs.Ytomcbbpaajpeiaa
