/-
  What a law holds on to while it walks: its arguments' cells, and that nothing that was there has turned. No condition.
-/
import Derived.Test.YtomcbbpaajpeiaaFlWalk
namespace Go.Proofs.Ytomcbbpaajpeiaa
open Go Go.RowKit

theorem held4_call {w W w3 : World} {p q : Nat} {a b c d : Value}
    (h : W.cell? ⟨p, 0, none⟩ = some a ∧ W.cell? ⟨p, 1, none⟩ = some b ∧ W.cell? ⟨q, 0, none⟩ = some c ∧ W.cell? ⟨q, 1, none⟩ = some d ∧ Below w.heap.size w W) (b3 : Below W.heap.size W w3) :
    w3.cell? ⟨p, 0, none⟩ = some a ∧ w3.cell? ⟨p, 1, none⟩ = some b ∧ w3.cell? ⟨q, 0, none⟩ = some c ∧ w3.cell? ⟨q, 1, none⟩ = some d ∧ Below w.heap.size w w3 := by
  obtain ⟨h0, h1, h2, h3, hb⟩ := h
  exact ⟨(b3.cell (block_lt_of_cell h0)).trans h0, (b3.cell (block_lt_of_cell h1)).trans h1, (b3.cell (block_lt_of_cell h2)).trans h2, (b3.cell (block_lt_of_cell h3)).trans h3, hb.trans (b3.mono hb.size)⟩
theorem held6_call {w W w3 : World} {p q r : Nat} {a b c d x y : Value}
    (h : W.cell? ⟨p, 0, none⟩ = some a ∧ W.cell? ⟨p, 1, none⟩ = some b ∧ W.cell? ⟨q, 0, none⟩ = some c ∧ W.cell? ⟨q, 1, none⟩ = some d ∧ W.cell? ⟨r, 0, none⟩ = some x ∧ W.cell? ⟨r, 1, none⟩ = some y ∧ Below w.heap.size w W) (b3 : Below W.heap.size W w3) :
    w3.cell? ⟨p, 0, none⟩ = some a ∧ w3.cell? ⟨p, 1, none⟩ = some b ∧ w3.cell? ⟨q, 0, none⟩ = some c ∧ w3.cell? ⟨q, 1, none⟩ = some d ∧ w3.cell? ⟨r, 0, none⟩ = some x ∧ w3.cell? ⟨r, 1, none⟩ = some y ∧ Below w.heap.size w w3 := by
  obtain ⟨h0, h1, h2, h3, h4, h5, hb⟩ := h
  exact ⟨(b3.cell (block_lt_of_cell h0)).trans h0, (b3.cell (block_lt_of_cell h1)).trans h1, (b3.cell (block_lt_of_cell h2)).trans h2, (b3.cell (block_lt_of_cell h3)).trans h3, (b3.cell (block_lt_of_cell h4)).trans h4, (b3.cell (block_lt_of_cell h5)).trans h5, hb.trans (b3.mono hb.size)⟩
theorem held2_call {w W w3 : World} {p : Nat} {a b : Value}
    (h : W.cell? ⟨p, 0, none⟩ = some a ∧ W.cell? ⟨p, 1, none⟩ = some b ∧ Below w.heap.size w W) (b3 : Below W.heap.size W w3) :
    w3.cell? ⟨p, 0, none⟩ = some a ∧ w3.cell? ⟨p, 1, none⟩ = some b ∧ Below w.heap.size w w3 := by
  obtain ⟨h0, h1, hb⟩ := h
  exact ⟨(b3.cell (block_lt_of_cell h0)).trans h0, (b3.cell (block_lt_of_cell h1)).trans h1, hb.trans (b3.mono hb.size)⟩
/-- A block of two cells that was made just ahead of a call. -/
theorem held_new {V w3 : World} {u v : Value} {T : TypeId} (b3 : Below (V.alloc (Obj.cells #[u, v] T)).heap.size (V.alloc (Obj.cells #[u, v] T)) w3) :
    w3.cell? ⟨V.heap.size, 0, none⟩ = some u ∧ w3.cell? ⟨V.heap.size, 1, none⟩ = some v ∧ w3.frozen? ⟨V.heap.size, 0, none⟩ = false ∧ w3.frozen? ⟨V.heap.size, 1, none⟩ = false ∧ V.heap.size < w3.heap.size := by
  have hl : V.heap.size < (V.alloc (Obj.cells #[u, v] T)).heap.size := by simp
  refine ⟨(b3.cell (p := ⟨V.heap.size, 0, none⟩) hl).trans (by simp [go_sem]), (b3.cell (p := ⟨V.heap.size, 1, none⟩) hl).trans (by simp [go_sem]), (b3.frozen (p := ⟨V.heap.size, 0, none⟩) hl).trans (by simp [go_sem]), (b3.frozen (p := ⟨V.heap.size, 1, none⟩) hl).trans (by simp [go_sem]), Nat.lt_of_lt_of_le hl b3.size⟩
theorem held_newD {V w3 : World} {u v : Value} {T : TypeId} (b3 : Below (V.alloc (Obj.cells #[u, v] T)).drew.heap.size (V.alloc (Obj.cells #[u, v] T)).drew w3) :
    w3.cell? ⟨V.heap.size, 0, none⟩ = some u ∧ w3.cell? ⟨V.heap.size, 1, none⟩ = some v ∧ w3.frozen? ⟨V.heap.size, 0, none⟩ = false ∧ w3.frozen? ⟨V.heap.size, 1, none⟩ = false ∧ V.heap.size < w3.heap.size := by
  have b4 : Below (V.alloc (Obj.cells #[u, v] T)).heap.size (V.alloc (Obj.cells #[u, v] T)) w3 := (bel0d' 1).trans b3
  exact held_new b4
theorem held_still {V w3 : World} {S : Nat} {u v : Value} (h : V.cell? ⟨S, 0, none⟩ = some u ∧ V.cell? ⟨S, 1, none⟩ = some v ∧ V.frozen? ⟨S, 0, none⟩ = false ∧ V.frozen? ⟨S, 1, none⟩ = false ∧ S < V.heap.size) (b3 : Below V.heap.size V w3) :
    w3.cell? ⟨S, 0, none⟩ = some u ∧ w3.cell? ⟨S, 1, none⟩ = some v ∧ w3.frozen? ⟨S, 0, none⟩ = false ∧ w3.frozen? ⟨S, 1, none⟩ = false ∧ S < w3.heap.size := by
  obtain ⟨h0, h1, h2, h3, hl⟩ := h
  exact ⟨(b3.cell (p := ⟨S, 0, none⟩) hl).trans h0, (b3.cell (p := ⟨S, 1, none⟩) hl).trans h1, (b3.frozen (p := ⟨S, 0, none⟩) hl).trans h2, (b3.frozen (p := ⟨S, 1, none⟩) hl).trans h3, Nat.lt_of_lt_of_le hl b3.size⟩

/-- For the walk's simp: what leaves 'nothing has turned'. -/
theorem bel_al (w : World) : ∀ (W : World) (o : Obj), Below w.heap.size w W → Below w.heap.size w (W.alloc o) := fun _ o h => h.alloc h.size o
theorem bel_dr (w : World) : ∀ W : World, Below w.heap.size w W → Below w.heap.size w W.drew := fun _ h => h.trans ⟨rfl, rfl, rfl, Nat.le_refl _, fun _ _ => rfl⟩
theorem bel_dn (w : World) : ∀ (W : World) (n : Nat), Below w.heap.size w W → Below w.heap.size w (W.drewN n) := fun _ _ h => h.trans ⟨rfl, rfl, rfl, Nat.le_refl _, fun _ _ => rfl⟩
theorem bel_st (w : World) : ∀ (W : World) (p o : Nat) (v : Value), w.heap.size ≤ p → Below w.heap.size w W → Below w.heap.size w (W.setCell ⟨p, o, none⟩ v) := fun _ _ _ v hp h => h.setCell hp v

end Go.Proofs.Ytomcbbpaajpeiaa
