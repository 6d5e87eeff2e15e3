/-
  A slice of complex numbers in one cell each that a call has made: it owns its memory, from a block on. No condition.
-/
import Derived.Test.YtomcbbpaajpeiaaFromPure
namespace Go.Proofs.Ytomcbbpaajpeiaa
open Go Go.RowKit

structure OwnZ (w : World) (base : Nat) (T : TypeId) (v : Value) (ps : List (Nat × Nat)) : Prop where
  own : ∃ xs : List Value, w.ownsRow base T 1 v ps.length xs ∧ ∀ j, j < ps.length → xs[j]? = some (.complex .f64 (reAt ps j) (imAt ps j))

theorem OwnZ.below {w w' : World} {base : Nat} {T : TypeId} {v : Value} {ps : List (Nat × Nat)} (h : OwnZ w base T v ps) (k : Below w.heap.size w w') : OwnZ w' base T v ps := by
  obtain ⟨xs, ho, hx⟩ := h.own
  exact ⟨⟨xs, ownsRow_below ho k, hx⟩⟩
theorem OwnZ.drewN {w : World} {base : Nat} {T : TypeId} {v : Value} {ps : List (Nat × Nat)} (h : OwnZ w base T v ps) (n : Nat) : OwnZ (w.drewN n) base T v ps := h.below (bel0d n)
theorem OwnZ.liesIn {w : World} {base : Nat} {T : TypeId} {v : Value} {ps : List (Nat × Nat)} (h : OwnZ w base T v ps) : ∀ g, v.ownBlock = some g → base ≤ g ∧ g < w.heap.size := by
  intro g hg
  obtain ⟨xs, ho, _⟩ := h.own
  rcases ho.2 with ⟨rfl, _⟩ | ⟨g', cap, cur, rfl, hb, hc, _⟩
  · cases hg
  · cases hg
    refine ⟨hb, ?_⟩
    rcases Nat.lt_or_ge g' w.heap.size with hlt | hge
    · exact hlt
    · rw [Array.getElem?_eq_none hge] at hc; cases hc
theorem OwnZ.far {w w' : World} {base : Nat} {T : TypeId} {v : Value} {ps : List (Nat × Nat)} {row : Option Nat} (h : OwnZ w base T v ps) (k : w.grownBy w' row) (hne : ∀ g, v.ownBlock = some g → some g ≠ row) : OwnZ w' base T v ps := by
  have hl := h.liesIn
  obtain ⟨xs, ⟨h1, h2⟩, hx⟩ := h.own
  refine ⟨⟨xs, ⟨h1, ?_⟩, hx⟩⟩
  rcases h2 with h2 | ⟨g, cap, cur, rfl, b, c, d⟩
  · exact .inl h2
  · exact .inr ⟨g, cap, cur, rfl, b, by rw [k.block g (hl g rfl).2 (hne g rfl)]; exact c, d⟩
theorem OwnZ.here {w : World} {base : Nat} {T : TypeId} {g cap : Nat} {ps : List (Nat × Nat)} (h : OwnZ w base T (.slice (some ⟨g, 0, none⟩) ps.length cap) ps) (i : Nat) (hi : i < ps.length) :
    w.cell? ⟨g, i, none⟩ = some (.complex .f64 (reAt ps i) (imAt ps i)) ∧ w.frozen? ⟨g, i, none⟩ = false := by
  obtain ⟨xs, ho, hx⟩ := h.own
  refine ⟨?_, ho.frozenAt _⟩
  rw [ho.cellAt i (by omega)]; exact hx i hi
theorem OwnZ.set {w : World} {base : Nat} {T : TypeId} {g cap : Nat} {ps : List (Nat × Nat)} (h : OwnZ w base T (.slice (some ⟨g, 0, none⟩) ps.length cap) ps) (i : Nat) (hi : i < ps.length) (a b : Nat) :
    OwnZ (w.setCell ⟨g, i, none⟩ (.complex .f64 a b)) base T (.slice (some ⟨g, 0, none⟩) ps.length cap) (ps.set i (a, b)) := by
  obtain ⟨xs, ho, hx⟩ := h.own
  have hl := ho.1
  have o1 := (ho.stored i (.complex .f64 a b)).1
  refine ⟨⟨_, by rw [List.length_set]; exact o1, fun j hj => ?_⟩⟩
  rw [List.length_set] at hj
  rw [reAt_set _ _ _ _ _ hi, imAt_set _ _ _ _ _ hi]
  by_cases e : j = i
  · subst e
    rw [if_pos rfl, if_pos rfl]
    exact List.getElem?_set_self (by omega)
  · rw [if_neg e, if_neg e, List.getElem?_set_ne (by omega)]; exact hx j hj
theorem ownZ_push {w : World} {base : Nat} {T : TypeId} {v : Value} {P : List (Nat × Nat)} {vs : List Value} {x y : Nat} (h : w.ownsRow base T 1 v (P.length + 1) (vs ++ [.complex .f64 x y])) (hl : vs.length = P.length * 1)
    (hx : ∀ j, j < P.length → vs[j]? = some (.complex .f64 (reAt P j) (imAt P j))) : OwnZ w base T v (P ++ [(x, y)]) := by
  refine ⟨⟨vs ++ [.complex .f64 x y], by simpa using h, fun j hj => ?_⟩⟩
  obtain ⟨h1, h2, h3⟩ := pushC_at (P := P) (a := x) (b := y)
  simp only [List.length_append, List.length_cons, List.length_nil] at hj
  by_cases e : j < P.length
  · rw [(h1 j e).1, (h1 j e).2, List.getElem?_append_left (by omega)]
    exact hx j e
  · obtain rfl : j = P.length := by omega
    rw [h2, h3, List.getElem?_append_right (by omega), hl]
    simp
theorem ownZ_lit (w : World) (base : Nat) (T : TypeId) (x y : Nat) (hb : base ≤ w.heap.size) : OwnZ (w.alloc (Obj.cells #[.complex .f64 x y] T)) base T (.slice (some ⟨w.heap.size, 0, none⟩) 1 1) [(x, y)] := by
  refine ⟨⟨[.complex .f64 x y], ⟨rfl, .inr ⟨w.heap.size, 1, #[.complex .f64 x y], rfl, hb, heap_alloc_new w _, Nat.le_refl _, by unfold maxLen; omega, rfl, rfl⟩⟩, fun j hj => ?_⟩⟩
  obtain rfl : j = 0 := by simpa using hj
  rfl

/-- While the list is made the next one, from the last place on: those behind place i are new, the others old. -/
structure Half (q l : List (Nat × Nat)) (c d i : Nat) : Prop where
  old : ∀ j, j ≤ i → reAt q j = reAt l j ∧ imAt q j = imAt l j
  new : ∀ j, i < j → j < q.length → Alike .f64 (reAt q j) (nRe l c d j) ∧ Alike .f64 (imAt q j) (nIm l c d j)
theorem Half.step {q l : List (Nat × Nat)} {c d i x y : Nat} (h : Half q l c d (i + 1)) (hi : i + 1 < q.length) (hx : Alike .f64 x (nRe l c d (i + 1))) (hy : Alike .f64 y (nIm l c d (i + 1))) : Half (q.set (i + 1) (x, y)) l c d i := by
  refine ⟨fun j hj => ?_, fun j hj hq => ?_⟩
  · rw [reAt_set _ _ _ _ _ hi, imAt_set _ _ _ _ _ hi, if_neg (by omega), if_neg (by omega)]
    exact h.old j (by omega)
  · rw [List.length_set] at hq
    rw [reAt_set _ _ _ _ _ hi, imAt_set _ _ _ _ _ hi]
    by_cases e : j = i + 1
    · subst e; rw [if_pos rfl, if_pos rfl]; exact ⟨hx, hy⟩
    · rw [if_neg e, if_neg e]; exact h.new j (by omega) hq
theorem Half.done {q l m : List (Nat × Nat)} {c d : Nat} (h : Half q l c d 0) (hm : AlikeL l m) (hl : q.length = l.length + 1) : AlikeL q (nextL m c d) := by
  refine nextL_of hm hl fun j hj => ?_
  by_cases e : j = 0
  · subst e
    obtain ⟨a, b⟩ := h.old 0 (Nat.le_refl _)
    rw [a, b]; exact ⟨.refl _ _, .refl _ _⟩
  · exact h.new j (by omega) hj
theorem Half.start {l : List (Nat × Nat)} (c d : Nat) : Half (l ++ [(0, 0)]) l c d l.length := by
  obtain ⟨u1, u2, u3⟩ := pushC_at (P := l) (a := 0) (b := 0)
  refine ⟨fun j hj => ?_, fun j hj hq => by simp at hq; omega⟩
  by_cases e : j < l.length
  · exact u1 j e
  · obtain rfl : j = l.length := by omega
    obtain ⟨z1, z2⟩ := at_out (l := l) (i := l.length) (Nat.le_refl _)
    rw [u2, u3, z1, z2]; exact ⟨rfl, rfl⟩

end Go.Proofs.Ytomcbbpaajpeiaa
