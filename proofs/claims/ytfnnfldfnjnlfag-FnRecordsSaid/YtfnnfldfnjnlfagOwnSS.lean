/-
  A list of lists of whole numbers that a call has made, each list in memory of its own; the law's size (with the total of the lengths), copy and marks of it. At lengths of at most 1048576.
-/
import Derived.Test.YtfnnfldfnjnlfagMakeS
import Derived.Test.YtfnnfldfnjnlfagMarkI
import Derived.Test.YtfnnfldfnjnlfagOnly
namespace Go.Proofs.Ytfnnfldfnjnlfag
open Go.RowKit

/-- The first k lengths together. -/
def totTo (zss : List (List Int)) : Nat → Nat
  | 0 => 0
  | k + 1 => totTo zss k + (nthS zss k).length

/-- Each list in a block of its own, the blocks rising. -/
structure OwnSS (w : World) (B hi len : Nat) (zss : List (List Int)) : Prop where
  len_eq : zss.length = len
  small : len ≤ 1048576
  lt : B < w.heap.size
  own : ∃ G : Nat → Nat, (∀ i, i < len → w.cell? ⟨B, i, none⟩ = some (.slice (some ⟨G i, 0, none⟩) (nthS zss i).length (nthS zss i).length) ∧ OwnI w (B + 1) (.slice (some ⟨G i, 0, none⟩) (nthS zss i).length (nthS zss i).length) (nthS zss i)) ∧ (∀ i j, i < j → j < len → G i < G j) ∧ ∀ i, i < len → G i < hi
theorem OwnSS.below {w w' : World} {B hi len : Nat} {zss : List (List Int)} (h : OwnSS w B hi len zss) (k : Below w.heap.size w w') : OwnSS w' B hi len zss := by
  obtain ⟨G, h1, h2⟩ := h.own
  exact ⟨h.len_eq, h.small, Nat.lt_of_lt_of_le h.lt k.size, G, fun i hi => ⟨(k.cell (p := ⟨B, i, none⟩) h.lt).trans (h1 i hi).1, (h1 i hi).2.below k⟩, h2⟩
theorem OwnSS.row {w : World} {B hi len : Nat} {zss : List (List Int)} (h : OwnSS w B hi len zss) : RowS w (some ⟨B, 0, none⟩) len zss := by
  obtain ⟨G, h1, h2⟩ := h.own
  refine ⟨h.len_eq, by have := h.small; omega, fun i hi => ⟨B, 0, _, _, _, rfl, by rw [Nat.zero_add]; exact (h1 i hi).1, (h1 i hi).2.row, Nat.le_refl _⟩⟩

structure CopiedO (w wr : World) (B : Nat) (zss : List (List Int)) (k : Nat) : Prop where
  own : ∃ (xs : List Value) (G : Nat → Nat), wr.ownsRow B 68 1 (.slice (some ⟨B, 0, none⟩) zss.length zss.length) zss.length xs ∧ (∀ j, j < k → xs[j]? = some (.slice (some ⟨G j, 0, none⟩) (nthS zss j).length (nthS zss j).length) ∧ OwnI wr (B + 1) (.slice (some ⟨G j, 0, none⟩) (nthS zss j).length (nthS zss j).length) (nthS zss j)) ∧ ∀ i j, i < j → j < k → G i < G j
  bel : Below w.heap.size w wr
  here : B < wr.heap.size
  old : w.heap.size ≤ B
theorem CopiedO.here_ {w wr : World} {B : Nat} {zss : List (List Int)} {k : Nat} (h : CopiedO w wr B zss k) (hk : k < zss.length) :
    (∃ v, wr.cell? ⟨B, k, none⟩ = some v) ∧ wr.frozen? ⟨B, k, none⟩ = false := by
  obtain ⟨xs, G, ho, _⟩ := h.own
  refine ⟨?_, ho.frozenAt k⟩
  rw [ho.cellAt k (by omega)]
  have := ho.1
  exact ⟨xs[k]'(by omega), List.getElem?_eq_getElem (by omega)⟩
theorem CopiedO.call {w wr w' : World} {B : Nat} {zss : List (List Int)} {k : Nat} (h : CopiedO w wr B zss k) (b : Below wr.heap.size wr w') : CopiedO w w' B zss k := by
  obtain ⟨xs, G, ho, hx, hg⟩ := h.own
  exact ⟨⟨xs, G, ownsRow_below ho b, fun j hj => ⟨(hx j hj).1, (hx j hj).2.below b⟩, hg⟩, h.bel.trans (b.mono h.bel.size), Nat.lt_of_lt_of_le h.here b.size, h.old⟩
theorem CopiedO.step {w wr w2 : World} {B : Nat} {zss : List (List Int)} {k : Nat} (h : CopiedO w wr B zss k) (b : Below wr.heap.size wr w2) (hk : k < zss.length) (ho2 : OwnI w2 wr.heap.size (.slice (some ⟨wr.heap.size, 0, none⟩) (nthS zss k).length (nthS zss k).length) (nthS zss k)) :
    CopiedO w (w2.setCell ⟨B, k, none⟩ (.slice (some ⟨wr.heap.size, 0, none⟩) (nthS zss k).length (nthS zss k).length)) B zss (k + 1) := by
  have hB := h.here
  obtain ⟨_, G0, _, hx0, _⟩ := h.own
  have h2 := h.call b
  obtain ⟨xs, G, ho, hx, hg⟩ := h.own
  have hoB := ownsRow_below ho b
  have hl := ho.1
  refine ⟨⟨_, fun j => if j = k then wr.heap.size else G j, (hoB.stored k _).1, fun j hj => ?_, fun i j hij hj => ?_⟩, h2.bel.setCell h.old _, by have := h2.here; simpa [World.setCell] using this, h.old⟩
  · by_cases e : j = k
    · subst e
      simp only [if_true]
      exact ⟨by rw [List.getElem?_set_self (by omega)], (ho2.mono (by omega)).set_other _ (by simp [Value.ownBlock]; omega)⟩
    · simp only [e, if_false]
      have hj' : j < k := by omega
      have l := (hx j hj').2.lies (G j) rfl
      exact ⟨by rw [List.getElem?_set_ne (by omega)]; exact (hx j hj').1, ((hx j hj').2.below b).set_other _ (by simp [Value.ownBlock]; omega)⟩
  · have hi : ¬ i = k := by omega
    simp only [hi, if_false]
    by_cases e : j = k
    · simp only [e, if_true]
      exact ((hx i (by omega)).2.lies (G i) rfl).2
    · simp only [e, if_false]
      exact hg i j hij (by omega)
theorem CopiedO.done {w wr : World} {B : Nat} {zss : List (List Int)} (h : CopiedO w wr B zss zss.length) (hs : zss.length ≤ 1048576) : OwnSS wr B wr.heap.size zss.length zss := by
  obtain ⟨xs, G, ho, hx, hg⟩ := h.own
  refine ⟨rfl, hs, h.here, G, fun i hi => ⟨?_, (hx i hi).2⟩, hg, fun i hi => ((hx i hi).2.lies _ rfl).2⟩
  rw [ho.cellAt i (by omega), (hx i hi).1]

/-- Some lists of the same lengths, in the same blocks. -/
structure SomeSS (w wr : World) (B hi len : Nat) (G : Nat → Nat) (zss : List (List Int)) : Prop where
  c : ∀ i, i < len → wr.cell? ⟨B, i, none⟩ = some (.slice (some ⟨G i, 0, none⟩) (nthS zss i).length (nthS zss i).length)
  o : ∀ i, i < len → ∃ zs : List Int, zs.length = (nthS zss i).length ∧ OwnI wr (B + 1) (.slice (some ⟨G i, 0, none⟩) (nthS zss i).length (nthS zss i).length) zs
  l : ∀ i, i < len → G i < hi
  y : Only (B + 1) hi w wr
theorem totTo_mono (zss : List (List Int)) {k m : Nat} (h : k ≤ m) : totTo zss k ≤ totTo zss m := by
  induction m with
  | zero => obtain rfl : k = 0 := by omega
            exact Nat.le_refl _
  | succ m ih =>
    by_cases e : k = m + 1
    · rw [e]; exact Nat.le_refl _
    · exact Nat.le_trans (ih (by omega)) (Nat.le_add_right _ _)
theorem SomeSS.step {w wr w' : World} {B hi len : Nat} {G : Nat → Nat} {zss : List (List Int)} (h : SomeSS w wr B hi len G zss) (hG : ∀ i j, i < j → j < len → G i < G j) {k : Nat} (hk : k < len) (hB : B < wr.heap.size) {zs : List Int} (hz : zs.length = (nthS zss k).length) (o : OwnI w' (B + 1) (.slice (some ⟨G k, 0, none⟩) (nthS zss k).length (nthS zss k).length) zs) (gr : wr.grownBy w' (some (G k))) : SomeSS w w' B hi len G zss := by
  have lk := o.lies (G k) rfl
  refine ⟨fun i hi => ?_, fun i hi => ?_, h.l, h.y.trans (Only.of_row gr (fun q hq => by have e : G k = q := by simpa using hq
                                                                                         have := h.l k hk; omega))⟩
  · have hb := gr.block B hB (by simp; omega)
    exact (World.cell?_of_block (a := ⟨B, i, none⟩) hb).trans (h.c i hi)
  · by_cases e : i = k
    · subst e; exact ⟨zs, hz, o⟩
    · obtain ⟨ys, h1, h2⟩ := h.o i hi
      refine ⟨ys, h1, h2.far gr (fun q hq e2 => ?_)⟩
      have e3 : G i = q := by simpa [Value.ownBlock] using hq
      have e4 : q = G k := by simpa using e2
      rcases Nat.lt_or_gt_of_ne e with c | c
      · have := hG i k c hk; omega
      · have := hG k i c hi; omega
theorem OwnSS.only {w w' : World} {B hi len lo2 hi2 : Nat} {zss : List (List Int)} (h : OwnSS w B hi len zss) (k : Only lo2 hi2 w w') (hs : hi2 ≤ B ∨ (B < lo2 ∧ hi ≤ lo2)) : OwnSS w' B hi len zss := by
  obtain ⟨G, h1, h2, h3⟩ := h.own
  refine ⟨h.len_eq, h.small, Nat.lt_of_lt_of_le h.lt k.size, G, fun i hl => ⟨?_, (h1 i hl).2.only k (fun g hg => ?_)⟩, h2, h3⟩
  · exact (World.cell?_of_block (a := ⟨B, i, none⟩) (k.block B h.lt (by omega))).trans (h1 i hl).1
  · have e : G i = g := by simpa [Value.ownBlock] using hg
    have a := ((h1 i hl).2.lies (G i) rfl).1
    have b := h3 i hl
    rcases hs with hs | hs
    · right; omega
    · left; omega

end Go.Proofs.Ytfnnfldfnjnlfag
