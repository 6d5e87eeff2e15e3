/-
  Two blocks that a law makes while it walks: what is known of them behind a call. No condition.
-/
import Derived.Test.YthdadhebpcndeamCxHeld
namespace Go.Proofs.Ythdadhebpcndeam
open Go Go.RowKit

theorem heldN8_call {w W w3 : World} {p0 o0 p1 o1 p2 o2 p3 o3 p4 o4 p5 o5 p6 o6 p7 o7 : Nat} {v0 v1 v2 v3 v4 v5 v6 v7 : Value} (h : W.cell? ⟨p0, o0, none⟩ = some v0 ∧ W.cell? ⟨p1, o1, none⟩ = some v1 ∧ W.cell? ⟨p2, o2, none⟩ = some v2 ∧ W.cell? ⟨p3, o3, none⟩ = some v3 ∧ W.cell? ⟨p4, o4, none⟩ = some v4 ∧ W.cell? ⟨p5, o5, none⟩ = some v5 ∧ W.cell? ⟨p6, o6, none⟩ = some v6 ∧ W.cell? ⟨p7, o7, none⟩ = some v7 ∧ Below w.heap.size w W) (b3 : Below W.heap.size W w3) : w3.cell? ⟨p0, o0, none⟩ = some v0 ∧ w3.cell? ⟨p1, o1, none⟩ = some v1 ∧ w3.cell? ⟨p2, o2, none⟩ = some v2 ∧ w3.cell? ⟨p3, o3, none⟩ = some v3 ∧ w3.cell? ⟨p4, o4, none⟩ = some v4 ∧ w3.cell? ⟨p5, o5, none⟩ = some v5 ∧ w3.cell? ⟨p6, o6, none⟩ = some v6 ∧ w3.cell? ⟨p7, o7, none⟩ = some v7 ∧ Below w.heap.size w w3 := by
  obtain ⟨h0, h1, h2, h3, h4, h5, h6, h7, hb⟩ := h
  exact ⟨(b3.cell (block_lt_of_cell h0)).trans h0, (b3.cell (block_lt_of_cell h1)).trans h1, (b3.cell (block_lt_of_cell h2)).trans h2, (b3.cell (block_lt_of_cell h3)).trans h3, (b3.cell (block_lt_of_cell h4)).trans h4, (b3.cell (block_lt_of_cell h5)).trans h5, (b3.cell (block_lt_of_cell h6)).trans h6, (b3.cell (block_lt_of_cell h7)).trans h7, hb.trans (b3.mono hb.size)⟩
theorem heldN12_call {w W w3 : World} {p0 o0 p1 o1 p2 o2 p3 o3 p4 o4 p5 o5 p6 o6 p7 o7 p8 o8 p9 o9 p10 o10 p11 o11 : Nat} {v0 v1 v2 v3 v4 v5 v6 v7 v8 v9 v10 v11 : Value} (h : W.cell? ⟨p0, o0, none⟩ = some v0 ∧ W.cell? ⟨p1, o1, none⟩ = some v1 ∧ W.cell? ⟨p2, o2, none⟩ = some v2 ∧ W.cell? ⟨p3, o3, none⟩ = some v3 ∧ W.cell? ⟨p4, o4, none⟩ = some v4 ∧ W.cell? ⟨p5, o5, none⟩ = some v5 ∧ W.cell? ⟨p6, o6, none⟩ = some v6 ∧ W.cell? ⟨p7, o7, none⟩ = some v7 ∧ W.cell? ⟨p8, o8, none⟩ = some v8 ∧ W.cell? ⟨p9, o9, none⟩ = some v9 ∧ W.cell? ⟨p10, o10, none⟩ = some v10 ∧ W.cell? ⟨p11, o11, none⟩ = some v11 ∧ Below w.heap.size w W) (b3 : Below W.heap.size W w3) : w3.cell? ⟨p0, o0, none⟩ = some v0 ∧ w3.cell? ⟨p1, o1, none⟩ = some v1 ∧ w3.cell? ⟨p2, o2, none⟩ = some v2 ∧ w3.cell? ⟨p3, o3, none⟩ = some v3 ∧ w3.cell? ⟨p4, o4, none⟩ = some v4 ∧ w3.cell? ⟨p5, o5, none⟩ = some v5 ∧ w3.cell? ⟨p6, o6, none⟩ = some v6 ∧ w3.cell? ⟨p7, o7, none⟩ = some v7 ∧ w3.cell? ⟨p8, o8, none⟩ = some v8 ∧ w3.cell? ⟨p9, o9, none⟩ = some v9 ∧ w3.cell? ⟨p10, o10, none⟩ = some v10 ∧ w3.cell? ⟨p11, o11, none⟩ = some v11 ∧ Below w.heap.size w w3 := by
  obtain ⟨h0, h1, h2, h3, h4, h5, h6, h7, h8, h9, h10, h11, hb⟩ := h
  exact ⟨(b3.cell (block_lt_of_cell h0)).trans h0, (b3.cell (block_lt_of_cell h1)).trans h1, (b3.cell (block_lt_of_cell h2)).trans h2, (b3.cell (block_lt_of_cell h3)).trans h3, (b3.cell (block_lt_of_cell h4)).trans h4, (b3.cell (block_lt_of_cell h5)).trans h5, (b3.cell (block_lt_of_cell h6)).trans h6, (b3.cell (block_lt_of_cell h7)).trans h7, (b3.cell (block_lt_of_cell h8)).trans h8, (b3.cell (block_lt_of_cell h9)).trans h9, (b3.cell (block_lt_of_cell h10)).trans h10, (b3.cell (block_lt_of_cell h11)).trans h11, hb.trans (b3.mono hb.size)⟩

theorem held_stillA {V w3 : World} {S : Nat} {u v : Value} {o : Obj} (h : V.cell? ⟨S, 0, none⟩ = some u ∧ V.cell? ⟨S, 1, none⟩ = some v ∧ V.frozen? ⟨S, 0, none⟩ = false ∧ V.frozen? ⟨S, 1, none⟩ = false ∧ S < V.heap.size) (b3 : Below (V.alloc o).heap.size (V.alloc o) w3) :
    w3.cell? ⟨S, 0, none⟩ = some u ∧ w3.cell? ⟨S, 1, none⟩ = some v ∧ w3.frozen? ⟨S, 0, none⟩ = false ∧ w3.frozen? ⟨S, 1, none⟩ = false ∧ S < w3.heap.size :=
  held_still h ((bel1 o).trans (b3.mono (by simp)))
theorem held_new2 {V w3 : World} {u v u' v' : Value} {T T' : TypeId} (b3 : Below ((V.alloc (Obj.cells #[u, v] T)).alloc (Obj.cells #[u', v'] T')).heap.size ((V.alloc (Obj.cells #[u, v] T)).alloc (Obj.cells #[u', v'] T')) w3) :
    (w3.cell? ⟨V.heap.size, 0, none⟩ = some u ∧ w3.cell? ⟨V.heap.size, 1, none⟩ = some v ∧ w3.frozen? ⟨V.heap.size, 0, none⟩ = false ∧ w3.frozen? ⟨V.heap.size, 1, none⟩ = false ∧ V.heap.size < w3.heap.size) ∧
    (w3.cell? ⟨V.heap.size + 1, 0, none⟩ = some u' ∧ w3.cell? ⟨V.heap.size + 1, 1, none⟩ = some v' ∧ w3.frozen? ⟨V.heap.size + 1, 0, none⟩ = false ∧ w3.frozen? ⟨V.heap.size + 1, 1, none⟩ = false ∧ V.heap.size + 1 < w3.heap.size) := by
  refine ⟨held_stillA ?_ b3, by simpa using held_new b3⟩
  refine ⟨?_, ?_, ?_, ?_, ?_⟩ <;> simp [go_sem]
theorem held_new2D {V w3 : World} {u v u' v' : Value} {T T' : TypeId} (b3 : Below ((V.alloc (Obj.cells #[u, v] T)).alloc (Obj.cells #[u', v'] T')).drew.heap.size ((V.alloc (Obj.cells #[u, v] T)).alloc (Obj.cells #[u', v'] T')).drew w3) :
    (w3.cell? ⟨V.heap.size, 0, none⟩ = some u ∧ w3.cell? ⟨V.heap.size, 1, none⟩ = some v ∧ w3.frozen? ⟨V.heap.size, 0, none⟩ = false ∧ w3.frozen? ⟨V.heap.size, 1, none⟩ = false ∧ V.heap.size < w3.heap.size) ∧
    (w3.cell? ⟨V.heap.size + 1, 0, none⟩ = some u' ∧ w3.cell? ⟨V.heap.size + 1, 1, none⟩ = some v' ∧ w3.frozen? ⟨V.heap.size + 1, 0, none⟩ = false ∧ w3.frozen? ⟨V.heap.size + 1, 1, none⟩ = false ∧ V.heap.size + 1 < w3.heap.size) := by
  have b4 : Below ((V.alloc (Obj.cells #[u, v] T)).alloc (Obj.cells #[u', v'] T')).heap.size ((V.alloc (Obj.cells #[u, v] T)).alloc (Obj.cells #[u', v'] T')) w3 := (bel0d' 1).trans b3
  exact held_new2 b4
theorem cell_al : ∀ (W : World) (o : Obj) (b i : Nat), b < W.heap.size → (W.alloc o).cell? ⟨b, i, none⟩ = W.cell? ⟨b, i, none⟩ := fun _ o b i h => (bel1 o).cell (p := ⟨b, i, none⟩) h
theorem frozen_al : ∀ (W : World) (o : Obj) (b i : Nat), b < W.heap.size → (W.alloc o).frozen? ⟨b, i, none⟩ = W.frozen? ⟨b, i, none⟩ := fun _ o b i h => (bel1 o).frozen (p := ⟨b, i, none⟩) h
theorem bel_st2 (w : World) : ∀ (W : World) (p o o' : Nat) (v v' : Value), w.heap.size ≤ p → Below w.heap.size w W → Below w.heap.size w ((W.setCell ⟨p, o, none⟩ v).setCell ⟨p, o', none⟩ v') := fun _ _ _ _ v v' hp h => (h.setCell hp v).setCell hp v'
theorem bel_st2a (w : World) : ∀ (W : World) (p o o' : Nat) (v v' : Value) (ob : Obj), w.heap.size ≤ p → Below w.heap.size w W → Below w.heap.size w (((W.setCell ⟨p, o, none⟩ v).setCell ⟨p, o', none⟩ v').alloc ob) := fun _ _ _ _ v v' ob hp h => bel_al w _ ob ((h.setCell hp v).setCell hp v')
theorem bel_aad (w : World) : ∀ (W : World) (o o' : Obj), Below w.heap.size w W → Below w.heap.size w ((W.alloc o).alloc o').drew := fun _ o o' h => bel_dr w _ (bel_al w _ o' (bel_al w _ o h))
theorem far_of {w : World} {p o : Nat} {v : Value} (h : w.cell? ⟨p, o, none⟩ = some v) : w.heap.size ≠ p ∧ w.heap.size + 1 ≠ p := by
  have := block_lt_of_cell h
  simp at this
  omega
theorem far_lt {n p : Nat} (h : p < n) : n ≠ p ∧ p ≠ n ∧ n + 1 ≠ p ∧ p ≠ n + 1 := by omega

end Go.Proofs.Ythdadhebpcndeam
