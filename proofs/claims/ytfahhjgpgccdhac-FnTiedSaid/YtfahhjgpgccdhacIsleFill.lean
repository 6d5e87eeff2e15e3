/-
  The program's row of buses while it is filled: each bus points to itself; and then it is a row of trees. No condition.
-/
import Derived.Test.YtfahhjgpgccdhacTreeImpl
namespace Go.Proofs.Ytfahhjgpgccdhac
open Go.RowKit

theorem info_bus : (Try.prog.info? 128).map (fun i => (i.zero, i.size, i.bytes)) = some (some (.agg #[.int .i64 0, .pointer none]), 2, 16) := by kernel_rfl

/-- The first k buses are filled. -/
structure Filled (W wr : World) (g N k : Nat) : Prop where
  own : ∃ xs : List Value, wr.ownsRow g 128 2 (.slice (some ⟨g, 0, none⟩) N N) N xs ∧ ∀ i, i < k → xs[i * 2]? = some (.int .i64 (i : Nat)) ∧ xs[i * 2 + 1]? = some (.pointer (some ⟨g, i * 2, none⟩))
  bel : Below W.heap.size W wr
theorem Filled.at_ {W wr : World} {g N k : Nat} (h : Filled W wr g N k) (i : Nat) (hi : i < N * 2) : (∃ v, wr.cell? ⟨g, i, none⟩ = some v) ∧ wr.frozen? ⟨g, i, none⟩ = false := by
  obtain ⟨xs, ho, _⟩ := h.own
  refine ⟨?_, ho.frozenAt i⟩
  rw [ho.cellAt i hi]
  have := ho.1
  exact ⟨xs[i]'(by omega), List.getElem?_eq_getElem (by omega)⟩
theorem Filled.step {W wr : World} {g N k : Nat} (h : Filled W wr g N k) (hk : k < N) (hg : W.heap.size ≤ g) :
    Filled W ((wr.setCell ⟨g, k * 2, none⟩ (.int .i64 (k : Nat))).setCell ⟨g, k * 2 + 1, none⟩ (.pointer (some ⟨g, k * 2, none⟩))) g N (k + 1) := by
  obtain ⟨xs, ho, hx⟩ := h.own
  have hl := ho.1
  have o0 := (ho.stored (k * 2) (.int .i64 (k : Nat))).1
  have o1 := (o0.stored (k * 2 + 1) (.pointer (some ⟨g, k * 2, none⟩))).1
  refine ⟨⟨_, o1, fun i hi => ?_⟩, (h.bel.setCell hg _).setCell hg _⟩
  by_cases e : i = k
  · subst e
    refine ⟨?_, ?_⟩
    · rw [List.getElem?_set_ne (by omega)]; exact List.getElem?_set_self (by omega)
    · exact List.getElem?_set_self (by simp; omega)
  · obtain ⟨h1, h2⟩ := hx i (by omega)
    refine ⟨?_, ?_⟩
    · rw [List.getElem?_set_ne (by omega), List.getElem?_set_ne (by omega)]; exact h1
    · rw [List.getElem?_set_ne (by omega), List.getElem?_set_ne (by omega)]; exact h2
theorem Filled.trees {W wr : World} {g N : Nat} (h : Filled W wr g N N) : Trees wr g N (fun i => i) := by
  obtain ⟨xs, ho, hx⟩ := h.own
  refine ⟨fun i hi => ?_, fun i hi => ?_, fun i _ => ho.frozenAt i, fun i _ => Nat.le_refl _⟩
  · rw [ho.cellAt _ (by omega)]; exact (hx i hi).1
  · rw [ho.cellAt _ (by omega)]; exact (hx i hi).2
theorem forest_id (N : Nat) (ts : List Ti) : Forest N ts (fun i => i) := ⟨fun _ _ => Nat.le_refl _, fun _ _ => .refl _⟩

/-- What the ties' loop holds on to. -/
structure TreeIn (W wr : World) (g N : Nat) (ts : List Ti) (par : Nat → Nat) (k : Nat) : Prop where
  bel : Below W.heap.size W wr
  trees : Trees wr g N par
  forest : Forest N ts par
  same : ∀ j, j < k → (elAt ts j).a2 = true → rootOf par (elAt ts j).a0.toNat = rootOf par (elAt ts j).a1.toNat
theorem TreeIn.below {W wr w' : World} {g N : Nat} {ts : List Ti} {par : Nat → Nat} {k : Nat} (h : TreeIn W wr g N ts par k) (b : Below wr.heap.size wr w') : TreeIn W w' g N ts par k :=
  ⟨h.bel.trans (b.mono h.bel.size), h.trees.below b, h.forest, h.same⟩
theorem TreeIn.open_ {W wr : World} {g N : Nat} {ts : List Ti} {par : Nat → Nat} {k : Nat} (h : TreeIn W wr g N ts par k) (hc : (elAt ts k).a2 = false) : TreeIn W wr g N ts par (k + 1) :=
  ⟨h.bel, h.trees, h.forest, fun j hj hj2 => by
    rcases Nat.lt_succ_iff_lt_or_eq.1 hj with e | e
    · exact h.same j e hj2
    · subst e; rw [hc] at hj2; cases hj2⟩
/-- Two roots joined. -/
theorem TreeIn.join {W wr w' : World} {g N : Nat} {ts : List Ti} {par : Nat → Nat} {k A B : Nat} (h : TreeIn W wr g N ts par k) (hk : k < ts.length) (hc : (elAt ts k).a2 = true) (hA : (elAt ts k).a0 = A) (hB : (elAt ts k).a1 = B) (h0 : A < N) (h1 : B < N) (hg : W.heap.size ≤ g)
    (t : Trees w' g N (joinP par (rootOf par A) (rootOf par B))) (gr : wr.grownBy w' (some g)) : TreeIn W w' g N ts (joinP par (rootOf par A) (rootOf par B)) (k + 1) := by
  obtain ⟨s1, s2⟩ := joinP_same (par := par) (x := A) (y := B)
  have ct := Conn.tie (ts := ts) k hk hc
  rw [hA, hB] at ct
  have cc : Conn ts ((rootOf par A : Nat) : Int) ((rootOf par B : Nat) : Int) := (h.forest.root A h0).symm.trans (ct.trans (h.forest.root B h1))
  refine ⟨h.bel.grown gr h.bel.size (fun i hi => by have := Option.some.inj hi; omega), t, joinP_forest h.forest cc, fun j hj hj2 => ?_⟩
  rcases Nat.lt_succ_iff_lt_or_eq.1 hj with e | e
  · exact s1 _ _ (h.same j e hj2)
  · subst e
    rw [hA, hB, Int.toNat_natCast, Int.toNat_natCast]
    exact s2

end Go.Proofs.Ytfahhjgpgccdhac
