/-
  What the law's copy of a list of lists answers (toIntSS): new memory that reads as the list did, at every list of at most 1048576 lists of at most 1048576 numbers; nothing that was there is written.
  A list of lists of whole numbers that a call has made, each list in memory of its own; the law's size (with the total of the lengths), copy and marks of it. At lengths of at most 1048576.
-/
import Derived.Test.YtfnnfldfnjnlfahMRowS
import Derived.Test.YtfnnfldfnjnlfahMarkI
import Derived.Test.YtfnnfldfnjnlfahMBlk

namespace Go.Proofs.Ytfnnfldfnjnlfah
open Go.RowKit

theorem info_ints : (Try.prog.info? 26).map (fun i => (i.zero, i.size, i.bytes)) = some (some (.slice none 0 0), 1, 24) := by kernel_rfl

/-- A row of rows in new memory: the row of slices in block B, the numbers of each in a block behind it. -/
structure RowN (w : World) (B len : Nat) (zss : List (List Int)) : Prop where
  len_eq : zss.length = len
  small : len ≤ 9223372036854775807
  cells : ∀ i, i < len → ∃ g n, B < g ∧ w.cell? ⟨B, i, none⟩ = some (.slice (some ⟨g, 0, none⟩) n n) ∧ Row w (some ⟨g, 0, none⟩) n (nthS zss i)

theorem RowN.rowS {w : World} {B len : Nat} {zss : List (List Int)} (h : RowN w B len zss) : RowS w (some ⟨B, 0, none⟩) len zss := by
  refine ⟨h.len_eq, h.small, fun i hi => ?_⟩
  obtain ⟨g, n, _, hc, hr⟩ := h.cells i hi
  exact ⟨B, 0, _, n, n, rfl, by rw [Nat.zero_add]; exact hc, hr, Nat.le_refl _⟩
theorem RowN.below {w w' : World} {B len : Nat} {zss : List (List Int)} (h : RowN w B len zss) (k : Below w.heap.size w w') : RowN w' B len zss := by
  refine ⟨h.len_eq, h.small, fun i hi => ?_⟩
  obtain ⟨g, n, hg, hc, hr⟩ := h.cells i hi
  exact ⟨g, n, hg, (k.cell (block_lt_of_cell hc)).trans hc, hr.below k⟩
theorem RowN.setCell {w : World} {B len : Nat} {zss : List (List Int)} (h : RowN w B len zss) {p : Addr} (hp : p.block < B) (v : Value) : RowN (w.setCell p v) B len zss := by
  refine ⟨h.len_eq, h.small, fun i hi => ?_⟩
  obtain ⟨g, n, hg, hc, hr⟩ := h.cells i hi
  exact ⟨g, n, hg, (World.cell?_setCell_other w _ _ _ (by intro e; rw [e] at hp; exact absurd hp (Nat.lt_irrefl _))).trans hc, hr.setCell (by omega) v⟩

/-- After k rounds of the copying of lists; the new row lies in block B. -/
structure CopiedS (w wr : World) (B : Nat) (zss : List (List Int)) (k : Nat) : Prop where
  own : ∃ xs : List Value, wr.ownsRow B 26 1 (.slice (some ⟨B, 0, none⟩) zss.length zss.length) zss.length xs ∧ ∀ j, j < k → ∃ g, B < g ∧ xs[j]? = some (.slice (some ⟨g, 0, none⟩) (nthS zss j).length (nthS zss j).length) ∧ Row wr (some ⟨g, 0, none⟩) (nthS zss j).length (nthS zss j)
  bel : Below w.heap.size w wr
  here : B < wr.heap.size
  old : w.heap.size ≤ B

theorem CopiedS.here_ {w wr : World} {B : Nat} {zss : List (List Int)} {k : Nat} (h : CopiedS w wr B zss k) (hk : k < zss.length) :
    (∃ v, wr.cell? ⟨B, k, none⟩ = some v) ∧ wr.frozen? ⟨B, k, none⟩ = false := by
  obtain ⟨xs, ho, _⟩ := h.own
  refine ⟨?_, ho.frozenAt k⟩
  rw [ho.cellAt k (by omega)]
  have := ho.1
  exact ⟨xs[k]'(by omega), List.getElem?_eq_getElem (by omega)⟩

/-- A call that makes memory leaves it so. -/
theorem CopiedS.call {w wr w' : World} {B : Nat} {zss : List (List Int)} {k : Nat} (h : CopiedS w wr B zss k) (b : Below wr.heap.size wr w') : CopiedS w w' B zss k := by
  obtain ⟨xs, ho, hx⟩ := h.own
  refine ⟨⟨xs, ownsRow_below ho b, fun j hj => ?_⟩, h.bel.trans (b.mono h.bel.size), Nat.lt_of_lt_of_le h.here b.size, h.old⟩
  obtain ⟨g, hg, e, r⟩ := hx j hj
  exact ⟨g, hg, e, r.below b⟩

theorem CopiedS.step {w wr : World} {B : Nat} {zss : List (List Int)} {k g : Nat} (h : CopiedS w wr B zss k) (hk : k < zss.length) (hg : B < g) (hr : Row wr (some ⟨g, 0, none⟩) (nthS zss k).length (nthS zss k)) :
    CopiedS w (wr.setCell ⟨B, k, none⟩ (.slice (some ⟨g, 0, none⟩) (nthS zss k).length (nthS zss k).length)) B zss (k + 1) := by
  obtain ⟨xs, ho, hx⟩ := h.own
  refine ⟨⟨_, (ho.stored k _).1, fun j hj => ?_⟩, h.bel.setCell h.old _, by have := h.here; simpa [World.setCell] using this, h.old⟩
  have hl := ho.1
  by_cases e : j = k
  · subst e
    exact ⟨g, hg, by rw [List.getElem?_set_self (by omega)], hr.setCell (by simp; omega) _⟩
  · obtain ⟨g', hg', e', r'⟩ := hx j (by omega)
    exact ⟨g', hg', by rw [List.getElem?_set_ne (by omega)]; exact e', r'.setCell (by simp; omega) _⟩

theorem CopiedS.row {w wr : World} {B : Nat} {zss : List (List Int)} (h : CopiedS w wr B zss zss.length) (hs : zss.length ≤ 1048576) :
    RowN wr B zss.length zss := by
  obtain ⟨xs, ho, hx⟩ := h.own
  refine ⟨rfl, by omega, fun i hi => ?_⟩
  obtain ⟨g, hg, e, r⟩ := hx i hi
  refine ⟨g, _, hg, ?_, r⟩
  rw [ho.cellAt i (by omega), e]

end Go.Proofs.Ytfnnfldfnjnlfah

namespace Go.Proofs.Ytfnnfldfnjnlfah
open Go.RowKit

/-- The first k lengths together. -/
def totTo (zss : List (List Int)) : Nat → Nat
  | 0 => 0
  | k + 1 => totTo zss k + (nthS zss k).length

/-- Each list in a block of its own, the blocks rising. -/
structure OwnSS (w : World) (B hi len : Nat) (zss : List (List Int)) : Prop where
  len_eq : zss.length = len
  small : len ≤ 1048576
  lt : B < w.heap.size
  own : ∃ G : Nat → Nat, (∀ i, i < len → w.cell? ⟨B, i, none⟩ = some (.slice (some ⟨G i, 0, none⟩) (nthS zss i).length (nthS zss i).length) ∧ OwnI w (B + 1) (.slice (some ⟨G i, 0, none⟩) (nthS zss i).length (nthS zss i).length) (nthS zss i)) ∧ (∀ i j, i < j → j < len → G i < G j) ∧ ∀ i, i < len → G i < hi
theorem OwnSS.below {w w' : World} {B hi len : Nat} {zss : List (List Int)} (h : OwnSS w B hi len zss) (k : Below w.heap.size w w') : OwnSS w' B hi len zss := by
  obtain ⟨G, h1, h2⟩ := h.own
  exact ⟨h.len_eq, h.small, Nat.lt_of_lt_of_le h.lt k.size, G, fun i hi => ⟨(k.cell (p := ⟨B, i, none⟩) h.lt).trans (h1 i hi).1, (h1 i hi).2.below k⟩, h2⟩
theorem OwnSS.row {w : World} {B hi len : Nat} {zss : List (List Int)} (h : OwnSS w B hi len zss) : RowS w (some ⟨B, 0, none⟩) len zss := by
  obtain ⟨G, h1, h2⟩ := h.own
  refine ⟨h.len_eq, by have := h.small; omega, fun i hi => ⟨B, 0, _, _, _, rfl, by rw [Nat.zero_add]; exact (h1 i hi).1, (h1 i hi).2.row, Nat.le_refl _⟩⟩

structure CopiedO (w wr : World) (B : Nat) (zss : List (List Int)) (k : Nat) : Prop where
  own : ∃ (xs : List Value) (G : Nat → Nat), wr.ownsRow B 26 1 (.slice (some ⟨B, 0, none⟩) zss.length zss.length) zss.length xs ∧ (∀ j, j < k → xs[j]? = some (.slice (some ⟨G j, 0, none⟩) (nthS zss j).length (nthS zss j).length) ∧ OwnI wr (B + 1) (.slice (some ⟨G j, 0, none⟩) (nthS zss j).length (nthS zss j).length) (nthS zss j)) ∧ ∀ i j, i < j → j < k → G i < G j
  bel : Below w.heap.size w wr
  here : B < wr.heap.size
  old : w.heap.size ≤ B
theorem CopiedO.here_ {w wr : World} {B : Nat} {zss : List (List Int)} {k : Nat} (h : CopiedO w wr B zss k) (hk : k < zss.length) :
    (∃ v, wr.cell? ⟨B, k, none⟩ = some v) ∧ wr.frozen? ⟨B, k, none⟩ = false := by
  obtain ⟨xs, G, ho, _⟩ := h.own
  refine ⟨?_, ho.frozenAt k⟩
  rw [ho.cellAt k (by omega)]
  have := ho.1
  exact ⟨xs[k]'(by omega), List.getElem?_eq_getElem (by omega)⟩
theorem CopiedO.call {w wr w' : World} {B : Nat} {zss : List (List Int)} {k : Nat} (h : CopiedO w wr B zss k) (b : Below wr.heap.size wr w') : CopiedO w w' B zss k := by
  obtain ⟨xs, G, ho, hx, hg⟩ := h.own
  exact ⟨⟨xs, G, ownsRow_below ho b, fun j hj => ⟨(hx j hj).1, (hx j hj).2.below b⟩, hg⟩, h.bel.trans (b.mono h.bel.size), Nat.lt_of_lt_of_le h.here b.size, h.old⟩
theorem CopiedO.step {w wr w2 : World} {B : Nat} {zss : List (List Int)} {k : Nat} (h : CopiedO w wr B zss k) (b : Below wr.heap.size wr w2) (hk : k < zss.length) (ho2 : OwnI w2 wr.heap.size (.slice (some ⟨wr.heap.size, 0, none⟩) (nthS zss k).length (nthS zss k).length) (nthS zss k)) :
    CopiedO w (w2.setCell ⟨B, k, none⟩ (.slice (some ⟨wr.heap.size, 0, none⟩) (nthS zss k).length (nthS zss k).length)) B zss (k + 1) := by
  have hB := h.here
  obtain ⟨_, G0, _, hx0, _⟩ := h.own
  have h2 := h.call b
  obtain ⟨xs, G, ho, hx, hg⟩ := h.own
  have hoB := ownsRow_below ho b
  have hl := ho.1
  refine ⟨⟨_, fun j => if j = k then wr.heap.size else G j, (hoB.stored k _).1, fun j hj => ?_, fun i j hij hj => ?_⟩, h2.bel.setCell h.old _, by have := h2.here; simpa [World.setCell] using this, h.old⟩
  · by_cases e : j = k
    · subst e
      simp only [if_true]
      exact ⟨by rw [List.getElem?_set_self (by omega)], (ho2.mono (by omega)).set_other _ (by simp [Value.ownBlock]; omega)⟩
    · simp only [e, if_false]
      have hj' : j < k := by omega
      have l := (hx j hj').2.lies (G j) rfl
      exact ⟨by rw [List.getElem?_set_ne (by omega)]; exact (hx j hj').1, ((hx j hj').2.below b).set_other _ (by simp [Value.ownBlock]; omega)⟩
  · have hi : ¬ i = k := by omega
    simp only [hi, if_false]
    by_cases e : j = k
    · simp only [e, if_true]
      exact ((hx i (by omega)).2.lies (G i) rfl).2
    · simp only [e, if_false]
      exact hg i j hij (by omega)
theorem CopiedO.done {w wr : World} {B : Nat} {zss : List (List Int)} (h : CopiedO w wr B zss zss.length) (hs : zss.length ≤ 1048576) : OwnSS wr B wr.heap.size zss.length zss := by
  obtain ⟨xs, G, ho, hx, hg⟩ := h.own
  refine ⟨rfl, hs, h.here, G, fun i hi => ⟨?_, (hx i hi).2⟩, hg, fun i hi => ((hx i hi).2.lies _ rfl).2⟩
  rw [ho.cellAt i (by omega), (hx i hi).1]

/-- Some lists of the same lengths, in the same blocks. -/
structure SomeSS (w wr : World) (B hi len : Nat) (G : Nat → Nat) (zss : List (List Int)) : Prop where
  c : ∀ i, i < len → wr.cell? ⟨B, i, none⟩ = some (.slice (some ⟨G i, 0, none⟩) (nthS zss i).length (nthS zss i).length)
  o : ∀ i, i < len → ∃ zs : List Int, zs.length = (nthS zss i).length ∧ OwnI wr (B + 1) (.slice (some ⟨G i, 0, none⟩) (nthS zss i).length (nthS zss i).length) zs
  l : ∀ i, i < len → G i < hi
  y : Only (B + 1) hi w wr
theorem totTo_mono (zss : List (List Int)) {k m : Nat} (h : k ≤ m) : totTo zss k ≤ totTo zss m := by
  induction m with
  | zero => obtain rfl : k = 0 := by omega
            exact Nat.le_refl _
  | succ m ih =>
    by_cases e : k = m + 1
    · rw [e]; exact Nat.le_refl _
    · exact Nat.le_trans (ih (by omega)) (Nat.le_add_right _ _)
theorem SomeSS.step {w wr w' : World} {B hi len : Nat} {G : Nat → Nat} {zss : List (List Int)} (h : SomeSS w wr B hi len G zss) (hG : ∀ i j, i < j → j < len → G i < G j) {k : Nat} (hk : k < len) (hB : B < wr.heap.size) {zs : List Int} (hz : zs.length = (nthS zss k).length) (o : OwnI w' (B + 1) (.slice (some ⟨G k, 0, none⟩) (nthS zss k).length (nthS zss k).length) zs) (gr : wr.grownBy w' (some (G k))) : SomeSS w w' B hi len G zss := by
  have lk := o.lies (G k) rfl
  refine ⟨fun i hi => ?_, fun i hi => ?_, h.l, h.y.trans (Only.of_row gr (fun q hq => by have e : G k = q := by simpa using hq
                                                                                         have := h.l k hk; omega))⟩
  · have hb := gr.block B hB (by simp; omega)
    exact (World.cell?_of_block (a := ⟨B, i, none⟩) hb).trans (h.c i hi)
  · by_cases e : i = k
    · subst e; exact ⟨zs, hz, o⟩
    · obtain ⟨ys, h1, h2⟩ := h.o i hi
      refine ⟨ys, h1, h2.far gr (fun q hq e2 => ?_)⟩
      have e3 : G i = q := by simpa [Value.ownBlock] using hq
      have e4 : q = G k := by simpa using e2
      rcases Nat.lt_or_gt_of_ne e with c | c
      · have := hG i k c hk; omega
      · have := hG k i c hi; omega
theorem OwnSS.only {w w' : World} {B hi len lo2 hi2 : Nat} {zss : List (List Int)} (h : OwnSS w B hi len zss) (k : Only lo2 hi2 w w') (hs : hi2 ≤ B ∨ (B < lo2 ∧ hi ≤ lo2)) : OwnSS w' B hi len zss := by
  obtain ⟨G, h1, h2, h3⟩ := h.own
  refine ⟨h.len_eq, h.small, Nat.lt_of_lt_of_le h.lt k.size, G, fun i hl => ⟨?_, (h1 i hl).2.only k (fun g hg => ?_)⟩, h2, h3⟩
  · exact (World.cell?_of_block (a := ⟨B, i, none⟩) (k.block B h.lt (by omega))).trans (h1 i hl).1
  · have e : G i = g := by simpa [Value.ownBlock] using hg
    have a := ((h1 i hl).2.lies (G i) rfl).1
    have b := h3 i hl
    rcases hs with hs | hs
    · right; omega
    · left; omega

end Go.Proofs.Ytfnnfldfnjnlfah
