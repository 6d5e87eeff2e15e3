/-
  A slice of whole numbers that a call has made: it owns its memory, from a block on; the law's copy of a list is such; its marks write nothing else. No condition but the lengths' bounds.
-/
import Derived.Test.YtomcbbpaajpeiaaChecked
import Derived.Test.YtomcbbpaajpeiaaOwn2
namespace Go.Proofs.Ytomcbbpaajpeiaa
open Go.RowKit

structure OwnI (w : World) (base : Nat) (v : Value) (zs : List Int) : Prop where
  own : ∃ xs : List Value, w.ownsRow base 3 1 v zs.length xs ∧ ∀ j, j < zs.length → xs[j]? = some (.int .i64 (nth zs j))
  fit : ∀ i : Nat, -9223372036854775808 ≤ nth zs i ∧ nth zs i ≤ 9223372036854775807

theorem OwnI.form {w : World} {base : Nat} {v : Value} {zs : List Int} (h : OwnI w base v zs) :
    (v = .slice none 0 0 ∧ zs = []) ∨ ∃ g cap, v = .slice (some ⟨g, 0, none⟩) zs.length cap ∧ base ≤ g ∧ g < w.heap.size ∧ zs.length ≤ cap ∧ cap ≤ maxLen := by
  obtain ⟨xs, ho, _⟩ := h.own
  rcases ho.2 with ⟨hv, h0⟩ | ⟨g, cap, cur, hv, hb, hg, hc, hm, _⟩
  · exact .inl ⟨hv, List.length_eq_zero_iff.1 h0⟩
  · refine .inr ⟨g, cap, hv, hb, ?_, hc, hm⟩
    rcases Nat.lt_or_ge g w.heap.size with hlt | hge
    · exact hlt
    · rw [Array.getElem?_eq_none hge] at hg; cases hg
theorem OwnI.lies {w : World} {base : Nat} {v : Value} {zs : List Int} (h : OwnI w base v zs) : ∀ g, v.ownBlock = some g → base ≤ g ∧ g < w.heap.size := by
  intro g hg
  rcases h.form with ⟨rfl, _⟩ | ⟨g', cap, rfl, h1, h2, _⟩
  · simp [Value.ownBlock] at hg
  · simp only [Value.ownBlock, Option.some.injEq] at hg
    omega
theorem OwnI.row {w : World} {base : Nat} {a : Option Addr} {len cap : Nat} {zs : List Int} (h : OwnI w base (.slice a len cap) zs) : Row w a len zs := by
  have hf := h.fit
  obtain ⟨xs, ho, hx⟩ := h.own
  rcases h.form with ⟨e, h0⟩ | ⟨g, cap', e, _, _, hc, hm⟩
  · simp only [Value.slice.injEq] at e
    obtain ⟨rfl, rfl, rfl⟩ := e
    subst h0
    exact ⟨rfl, by simp, fun i hi => by omega, hf⟩
  · simp only [Value.slice.injEq] at e
    obtain ⟨rfl, rfl, rfl⟩ := e
    refine ⟨rfl, by unfold maxLen at hm; omega, fun i hi => ⟨_, _, rfl, ?_⟩, hf⟩
    rw [Nat.zero_add, ho.cellAt i (by omega)]; exact hx i hi
theorem OwnI.below {w w' : World} {base : Nat} {v : Value} {zs : List Int} (h : OwnI w base v zs) (k : Below w.heap.size w w') : OwnI w' base v zs := by
  obtain ⟨xs, ho, hx⟩ := h.own
  exact ⟨⟨xs, ownsRow_below ho k, hx⟩, h.fit⟩
theorem OwnI.mono {w : World} {base base' : Nat} {v : Value} {zs : List Int} (h : OwnI w base v zs) (hb : base' ≤ base) : OwnI w base' v zs := by
  obtain ⟨xs, ⟨h1, h2⟩, hx⟩ := h.own
  refine ⟨⟨xs, ⟨h1, ?_⟩, hx⟩, h.fit⟩
  rcases h2 with h2 | ⟨g, cap, cur, a, b, c⟩
  · exact .inl h2
  · exact .inr ⟨g, cap, cur, a, by omega, c⟩
theorem OwnI.far {w w' : World} {base : Nat} {v : Value} {zs : List Int} {row : Option Nat} (h : OwnI w base v zs) (k : w.grownBy w' row) (hne : ∀ g, v.ownBlock = some g → some g ≠ row) : OwnI w' base v zs := by
  obtain ⟨xs, ⟨h1, h2⟩, hx⟩ := h.own
  refine ⟨⟨xs, ⟨h1, ?_⟩, hx⟩, h.fit⟩
  rcases h2 with h2 | ⟨g, cap, cur, rfl, b, c, d⟩
  · exact .inl h2
  · refine .inr ⟨g, cap, cur, rfl, b, ?_, d⟩
    have hg : g < w.heap.size := by
      rcases Nat.lt_or_ge g w.heap.size with hlt | hge
      · exact hlt
      · rw [Array.getElem?_eq_none hge] at c; cases c
    rw [k.block g hg (hne g rfl)]; exact c
theorem OwnI.set_other {w : World} {base : Nat} {v : Value} {zs : List Int} (h : OwnI w base v zs) {S o : Nat} (u : Value) (hne : v.ownBlock ≠ some S) : OwnI (w.setCell ⟨S, o, none⟩ u) base v zs :=
  h.far (grown_set (grown_refl w (some S)) o u) (fun _ hg e => hne (hg.trans e))
theorem OwnI.here {w : World} {base : Nat} {g cap : Nat} {zs : List Int} (h : OwnI w base (.slice (some ⟨g, 0, none⟩) zs.length cap) zs) (i : Nat) (hi : i < zs.length) : w.cell? ⟨g, i, none⟩ = some (.int .i64 (nth zs i)) ∧ w.frozen? ⟨g, i, none⟩ = false := by
  obtain ⟨xs, ho, hx⟩ := h.own
  exact ⟨by rw [ho.cellAt i (by omega)]; exact hx i hi, ho.frozenAt _⟩
theorem nth_set (zs : List Int) (i j : Nat) (a : Int) (hi : i < zs.length) : nth (zs.set i a) j = if j = i then a else nth zs j := by
  unfold nth
  by_cases e : j = i
  · subst e; rw [List.getElem?_set_self hi]; simp
  · rw [List.getElem?_set_ne (by omega)]; simp [e]
theorem OwnI.set {w : World} {base : Nat} {g cap : Nat} {zs : List Int} (h : OwnI w base (.slice (some ⟨g, 0, none⟩) zs.length cap) zs) (i : Nat) (hi : i < zs.length) (a : Int) (ha : -9223372036854775808 ≤ a ∧ a ≤ 9223372036854775807) :
    OwnI (w.setCell ⟨g, i, none⟩ (.int .i64 a)) base (.slice (some ⟨g, 0, none⟩) zs.length cap) (zs.set i a) := by
  have hf := h.fit
  obtain ⟨xs, ho, hx⟩ := h.own
  have hl := ho.1
  have o1 := (ho.stored i (.int .i64 a)).1
  refine ⟨⟨_, by rw [List.length_set]; exact o1, fun j hj => ?_⟩, fun j => ?_⟩
  · rw [List.length_set] at hj
    rw [nth_set _ _ _ _ hi]
    by_cases e : j = i
    · subst e; rw [if_pos rfl]; exact List.getElem?_set_self (by omega)
    · rw [if_neg e, List.getElem?_set_ne (by omega)]; exact hx j hj
  · rw [nth_set _ _ _ _ hi]
    by_cases e : j = i
    · rw [if_pos e]; exact ha
    · rw [if_neg e]; exact hf j


def markI (zs : List Int) (k : Int) : Nat → List Int
  | 0 => zs
  | n + 1 => (markI zs k n).set n (k + n)
theorem markI_len (zs : List Int) (k : Int) (n : Nat) : (markI zs k n).length = zs.length := by
  induction n with
  | zero => rfl
  | succ n ih => simp [markI, ih]


end Go.Proofs.Ytomcbbpaajpeiaa
