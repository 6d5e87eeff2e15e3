/-
  The coefficients that are made from roots, all NaNs told as one; lists of complex numbers that grow. No condition.
-/
import Derived.Test.YtomcbbpaajpeiaaOwnC
import Derived.Test.YtomcbbpaajpeiaaMCxPure
import Derived.Deep.AppendLies
namespace Go.Proofs.Ytomcbbpaajpeiaa
open Go Go.RowKit

/-- One value at each place. -/
structure AlikeL (l m : List (Nat × Nat)) : Prop where
  len : l.length = m.length
  re : ∀ i, Alike .f64 (reAt l i) (reAt m i)
  im : ∀ i, Alike .f64 (imAt l i) (imAt m i)
theorem AlikeL.symm {l m : List (Nat × Nat)} (h : AlikeL l m) : AlikeL m l := ⟨h.len.symm, fun i => (h.re i).symm, fun i => (h.im i).symm⟩
theorem AlikeL.trans {l m n : List (Nat × Nat)} (h : AlikeL l m) (g : AlikeL m n) : AlikeL l n := ⟨h.len.trans g.len, fun i => (h.re i).trans (g.re i), fun i => (h.im i).trans (g.im i)⟩

/-- The number at place i of the next list. -/
def nRe (l : List (Nat × Nat)) (c d : Nat) : Nat → Nat
  | 0 => reAt l 0
  | i + 1 => fl .sub .f64 (reAt l (i + 1)) (tRe (reAt l i) (imAt l i) c d)
def nIm (l : List (Nat × Nat)) (c d : Nat) : Nat → Nat
  | 0 => imAt l 0
  | i + 1 => fl .sub .f64 (imAt l (i + 1)) (tIm (reAt l i) (imAt l i) c d)
def nextL (l : List (Nat × Nat)) (c d : Nat) : List (Nat × Nat) := (List.range (l.length + 1)).map fun i => (nRe l c d i, nIm l c d i)
def one64c : Nat := 4607182418800017408
def fromL (ps : List (Nat × Nat)) : Nat → List (Nat × Nat)
  | 0 => [(one64c, 0)]
  | k + 1 => nextL (fromL ps k) (reAt ps k) (imAt ps k)
def fromB (ps : List (Nat × Nat)) : Bool := decide (ps.length ≤ 11)
def fromR (ps : List (Nat × Nat)) : List (Nat × Nat) := bif fromB ps then fromL ps ps.length else []

theorem nextL_len (l : List (Nat × Nat)) (c d : Nat) : (nextL l c d).length = l.length + 1 := by simp [nextL]
theorem fromL_len (ps : List (Nat × Nat)) : ∀ k, (fromL ps k).length = k + 1
  | 0 => rfl
  | k + 1 => by rw [fromL, nextL_len, fromL_len ps k]
theorem nextL_at (l : List (Nat × Nat)) (c d i : Nat) (hi : i ≤ l.length) : reAt (nextL l c d) i = nRe l c d i ∧ imAt (nextL l c d) i = nIm l c d i := by
  unfold reAt imAt nextL
  rw [List.getElem?_map, List.getElem?_range (by omega)]
  exact ⟨rfl, rfl⟩
theorem at_out {l : List (Nat × Nat)} {i : Nat} (h : l.length ≤ i) : reAt l i = 0 ∧ imAt l i = 0 := by
  unfold reAt imAt
  rw [List.getElem?_eq_none h]
  exact ⟨rfl, rfl⟩
theorem next_alike {l m : List (Nat × Nat)} (h : AlikeL l m) (c d : Nat) : ∀ i, Alike .f64 (nRe l c d i) (nRe m c d i) ∧ Alike .f64 (nIm l c d i) (nIm m c d i)
  | 0 => ⟨h.re 0, h.im 0⟩
  | i + 1 => ⟨(h.re (i + 1)).fl ((h.re i).tRe (h.im i) (.refl _ _) (.refl _ _)), (h.im (i + 1)).fl ((h.re i).tIm (h.im i) (.refl _ _) (.refl _ _))⟩
/-- A list that is alike to the next one of something alike is alike to the next one. -/
theorem nextL_of {l m q : List (Nat × Nat)} {c d : Nat} (h : AlikeL l m) (hl : q.length = l.length + 1) (hq : ∀ j, j < q.length → Alike .f64 (reAt q j) (nRe l c d j) ∧ Alike .f64 (imAt q j) (nIm l c d j)) : AlikeL q (nextL m c d) := by
  have e1 : q.length = (nextL m c d).length := by rw [nextL_len, ← h.len, hl]
  have key : ∀ j, Alike .f64 (reAt q j) (reAt (nextL m c d) j) ∧ Alike .f64 (imAt q j) (imAt (nextL m c d) j) := by
    intro j
    by_cases hj : j < q.length
    · obtain ⟨a1, a2⟩ := nextL_at m c d j (by rw [← h.len]; omega)
      rw [a1, a2]
      exact ⟨(hq j hj).1.trans (next_alike h c d j).1, (hq j hj).2.trans (next_alike h c d j).2⟩
    · obtain ⟨a1, a2⟩ := at_out (l := q) (i := j) (by omega)
      obtain ⟨a3, a4⟩ := at_out (l := nextL m c d) (i := j) (by omega)
      rw [a1, a2, a3, a4]
      exact ⟨.refl _ _, .refl _ _⟩
  exact ⟨e1, fun j => (key j).1, fun j => (key j).2⟩

theorem pushC_at {P : List (Nat × Nat)} {a b : Nat} : (∀ i, i < P.length → reAt (P ++ [(a, b)]) i = reAt P i ∧ imAt (P ++ [(a, b)]) i = imAt P i) ∧ reAt (P ++ [(a, b)]) P.length = a ∧ imAt (P ++ [(a, b)]) P.length = b := by
  refine ⟨fun i hi => ?_, ?_, ?_⟩
  · unfold reAt imAt; rw [List.getElem?_append_left hi]; exact ⟨rfl, rfl⟩
  · simp [reAt]
  · simp [imAt]
theorem ownC_push {w : World} {base : Nat} {T : TypeId} {v : Value} {P : List (Nat × Nat)} {vs : List Value} {x y : Nat} (h : w.ownsRow base T 2 v (P.length + 1) (vs ++ [.float .f64 x, .float .f64 y])) (hl : vs.length = P.length * 2)
    (hx : ∀ j, j < P.length → vs[j * 2]? = some (.float .f64 (reAt P j)) ∧ vs[j * 2 + 1]? = some (.float .f64 (imAt P j))) : OwnC w base T v (P ++ [(x, y)]) := by
  refine ⟨⟨vs ++ [.float .f64 x, .float .f64 y], by simpa using h, fun j hj => ?_⟩⟩
  obtain ⟨h1, h2, h3⟩ := pushC_at (P := P) (a := x) (b := y)
  simp only [List.length_append, List.length_cons, List.length_nil] at hj
  by_cases e : j < P.length
  · rw [(h1 j e).1, (h1 j e).2, List.getElem?_append_left (by omega), List.getElem?_append_left (by omega)]
    exact hx j e
  · obtain rfl : j = P.length := by omega
    rw [h2, h3, List.getElem?_append_right (by omega), List.getElem?_append_right (by omega), hl]
    simp
/-- A literal list of one. -/
theorem ownC_lit (w : World) (base : Nat) (T : TypeId) (x y : Nat) (hb : base ≤ w.heap.size) : OwnC (w.alloc (Obj.cells #[.float .f64 x, .float .f64 y] T)) base T (.slice (some ⟨w.heap.size, 0, none⟩) 1 1) [(x, y)] := by
  refine ⟨⟨[.float .f64 x, .float .f64 y], ⟨rfl, .inr ⟨w.heap.size, 1, #[.float .f64 x, .float .f64 y], rfl, hb, ?_, Nat.le_refl _, by unfold maxLen; omega, rfl, rfl⟩⟩, fun j hj => ?_⟩⟩
  · exact heap_alloc_new w _
  · obtain rfl : j = 0 := by simpa using hj
    exact ⟨rfl, rfl⟩
theorem ownC_none (w : World) (base : Nat) (T : TypeId) (hb : base ≤ w.heap.size) : OwnC (w.alloc (Obj.cells #[] T)) base T (.slice (some ⟨w.heap.size, 0, none⟩) 0 0) [] :=
  ⟨⟨[], ⟨rfl, .inr ⟨w.heap.size, 0, #[], rfl, hb, heap_alloc_new w _, Nat.le_refl _, by unfold maxLen; omega, rfl, rfl⟩⟩, fun j hj => by simp at hj⟩⟩
theorem OwnC.liesIn {w : World} {base : Nat} {T : TypeId} {v : Value} {ps : List (Nat × Nat)} (h : OwnC w base T v ps) : ∀ g, v.ownBlock = some g → base ≤ g ∧ g < w.heap.size := by
  intro g hg
  rcases h.form with ⟨rfl, _⟩ | ⟨g', cap, rfl, hb, hlt, _, _⟩
  · cases hg
  · cases hg; exact ⟨hb, hlt⟩

end Go.Proofs.Ytomcbbpaajpeiaa
