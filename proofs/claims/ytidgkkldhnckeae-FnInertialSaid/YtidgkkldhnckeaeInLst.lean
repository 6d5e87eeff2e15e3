/-
  A drift in its block and a list of pushes that grows, on the way of a law. No condition.
-/
import Derived.Test.YtidgkkldhnckeaeInIs
import Derived.Test.YtidgkkldhnckeaeRowPu
import Derived.Test.YtidgkkldhnckeaeAppEl
import Derived.Test.YtidgkkldhnckeaeSomeE
import Derived.Test.YtidgkkldhnckeaeInFacts
namespace Go.Proofs.Ytidgkkldhnckeae
open Go.RowKit

structure Lst (w wr : World) (X Y : Int) (v : Value) (zs : List Pu) : Prop where
  blk : Blk wr w.heap.size [.int .i64 X, .int .i64 Y, .int .i64 0, .int .i64 0]
  own : OwnE 2 puC wr (w.heap.size + 1) 41 v zs
  bel : Below w.heap.size w wr
theorem Lst.below {w wr w' : World} {X Y : Int} {v : Value} {zs : List Pu} (h : Lst w wr X Y v zs) (b : Below wr.heap.size wr w') : Lst w w' X Y v zs :=
  ⟨h.blk.below b, h.own.below b, h.bel.trans (b.mono h.bel.size)⟩
theorem Lst.push {w wr w9 : World} {X Y : Int} {v v' : Value} {zs zs' : List Pu} (h : Lst w wr X Y v zs) (o : OwnE 2 puC w9 (w.heap.size + 1) 41 v' zs') (gr : wr.grownBy w9 v.ownBlock) : Lst w w9 X Y v' zs' :=
  ⟨h.blk.apart gr (fun e => by have := h.own.lies _ e.symm; omega), o, h.bel.grown gr h.bel.size (fun q hq => by have := h.own.lies q hq; omega)⟩
theorem lst_new (w : World) (X Y : Int) (T : TypeId) : Lst w ((w.alloc (Obj.cells #[.int .i64 X, .int .i64 Y, .int .i64 0, .int .i64 0] T)).alloc (Obj.cells #[] 41)) X Y (.slice (some ⟨w.heap.size + 1, 0, none⟩) 0 0) [] := by
  refine ⟨(Blk.new _ _).alloc _, ?_, bel2 _ _⟩
  have h := ownE_none (K := 2) (cells := puC) (T := 41) (w := w.alloc (Obj.cells #[.int .i64 X, .int .i64 Y, .int .i64 0, .int .i64 0] T)) (w1 := w.alloc (Obj.cells #[.int .i64 X, .int .i64 Y, .int .i64 0, .int .i64 0] T)) (Nat.le_refl _)
  simpa using h
theorem two_cells (a b : Int) : ∀ q, q < 2 → [Value.int .i64 a, .int .i64 b][q]? = some (puC ⟨a, b⟩ q) := fun q hq => by
  rcases (by omega : q = 0 ∨ q = 1) with rfl | rfl <;> rfl
theorem inhK4 {w W w3 : World} {p0 o0 p1 o1 p2 o2 p3 o3 : Nat} {v0 v1 v2 v3 : Value} (h : W.cell? ⟨p0, o0, none⟩ = some v0 ∧ W.cell? ⟨p1, o1, none⟩ = some v1 ∧ W.cell? ⟨p2, o2, none⟩ = some v2 ∧ W.cell? ⟨p3, o3, none⟩ = some v3 ∧ Below w.heap.size w W) (b3 : Below W.heap.size W w3) : w3.cell? ⟨p0, o0, none⟩ = some v0 ∧ w3.cell? ⟨p1, o1, none⟩ = some v1 ∧ w3.cell? ⟨p2, o2, none⟩ = some v2 ∧ w3.cell? ⟨p3, o3, none⟩ = some v3 ∧ Below w.heap.size w w3 := by
  obtain ⟨h0, h1, h2, h3, hb⟩ := h
  exact ⟨(b3.cell (block_lt_of_cell h0)).trans h0, (b3.cell (block_lt_of_cell h1)).trans h1, (b3.cell (block_lt_of_cell h2)).trans h2, (b3.cell (block_lt_of_cell h3)).trans h3, hb.trans (b3.mono hb.size)⟩
theorem inhNew {V w3 : World} {u0 u1 u2 u3 : Value} {T : TypeId} (b3 : Below (V.alloc (Obj.cells #[u0, u1, u2, u3] T)).heap.size (V.alloc (Obj.cells #[u0, u1, u2, u3] T)) w3) : w3.cell? ⟨V.heap.size, 0, none⟩ = some u0 ∧ w3.cell? ⟨V.heap.size, 1, none⟩ = some u1 ∧ w3.cell? ⟨V.heap.size, 2, none⟩ = some u2 ∧ w3.cell? ⟨V.heap.size, 3, none⟩ = some u3 ∧ w3.frozen? ⟨V.heap.size, 0, none⟩ = false ∧ w3.frozen? ⟨V.heap.size, 1, none⟩ = false ∧ w3.frozen? ⟨V.heap.size, 2, none⟩ = false ∧ w3.frozen? ⟨V.heap.size, 3, none⟩ = false ∧ V.heap.size < w3.heap.size := by
  have hl : V.heap.size < (V.alloc (Obj.cells #[u0, u1, u2, u3] T)).heap.size := by simp
  exact ⟨(b3.cell (p := ⟨V.heap.size, 0, none⟩) hl).trans (by simp [go_sem]), (b3.cell (p := ⟨V.heap.size, 1, none⟩) hl).trans (by simp [go_sem]), (b3.cell (p := ⟨V.heap.size, 2, none⟩) hl).trans (by simp [go_sem]), (b3.cell (p := ⟨V.heap.size, 3, none⟩) hl).trans (by simp [go_sem]), (b3.frozen (p := ⟨V.heap.size, 0, none⟩) hl).trans (by simp [go_sem]), (b3.frozen (p := ⟨V.heap.size, 1, none⟩) hl).trans (by simp [go_sem]), (b3.frozen (p := ⟨V.heap.size, 2, none⟩) hl).trans (by simp [go_sem]), (b3.frozen (p := ⟨V.heap.size, 3, none⟩) hl).trans (by simp [go_sem]), Nat.lt_of_lt_of_le hl b3.size⟩
theorem inhNewD {V w3 : World} {u0 u1 u2 u3 : Value} {T : TypeId} (b3 : Below (V.alloc (Obj.cells #[u0, u1, u2, u3] T)).drew.heap.size (V.alloc (Obj.cells #[u0, u1, u2, u3] T)).drew w3) : w3.cell? ⟨V.heap.size, 0, none⟩ = some u0 ∧ w3.cell? ⟨V.heap.size, 1, none⟩ = some u1 ∧ w3.cell? ⟨V.heap.size, 2, none⟩ = some u2 ∧ w3.cell? ⟨V.heap.size, 3, none⟩ = some u3 ∧ w3.frozen? ⟨V.heap.size, 0, none⟩ = false ∧ w3.frozen? ⟨V.heap.size, 1, none⟩ = false ∧ w3.frozen? ⟨V.heap.size, 2, none⟩ = false ∧ w3.frozen? ⟨V.heap.size, 3, none⟩ = false ∧ V.heap.size < w3.heap.size :=
  inhNew (T := T) ((bel0d' 1).trans b3)
theorem inh_al (w : World) : ∀ (W : World) (o : Obj), Below w.heap.size w W → Below w.heap.size w (W.alloc o) := fun _ o h => h.alloc h.size o
theorem inh_dr (w : World) : ∀ W : World, Below w.heap.size w W → Below w.heap.size w W.drew := fun _ h => h.trans ⟨rfl, rfl, rfl, Nat.le_refl _, fun _ _ => rfl⟩
theorem inh_st1 (w : World) : ∀ (W : World) (p o : Nat) (v : Value), w.heap.size ≤ p → Below w.heap.size w W → Below w.heap.size w (W.setCell ⟨p, o, none⟩ v) := fun _ _ _ v hp h => h.setCell hp v
theorem inh_st (w : World) : ∀ (W : World) (p o0 o1 o2 o3 : Nat) (v0 v1 v2 v3 : Value), w.heap.size ≤ p → Below w.heap.size w W → Below w.heap.size w ((((W.setCell ⟨p, o0, none⟩ v0).setCell ⟨p, o1, none⟩ v1).setCell ⟨p, o2, none⟩ v2).setCell ⟨p, o3, none⟩ v3) := fun _ _ _ _ _ _ v0 v1 v2 v3 hp h => ((((h.setCell hp v0).setCell hp v1).setCell hp v2).setCell hp v3)
theorem RowE.front {α : Type} [Inhabited α] {K : Nat} {cells : α → Nat → Value} {w : World} {a : Option Addr} {len k : Nat} {xs ys : List α} (h : RowE K cells w a len (xs ++ ys)) (hk : xs.length = k) : RowE K cells w a k xs := by
  subst hk
  have hl := h.len_eq
  rw [List.length_append] at hl
  have hs := h.small
  refine ⟨rfl, by omega, fun i hi => ?_⟩
  obtain ⟨b, off, e, hc⟩ := h.at_ i (by omega)
  rw [elAt_l hi] at hc
  exact ⟨b, off, e, hc⟩
theorem RowE.back {α : Type} [Inhabited α] {K : Nat} {cells : α → Nat → Value} {w : World} {g len k : Nat} {xs ys : List α} (h : RowE K cells w (some ⟨g, 0, none⟩) len (xs ++ ys)) (hk : xs.length = k) : RowE K cells w (some ⟨g, k * K, none⟩) ys.length ys := by
  subst hk
  have hl := h.len_eq
  rw [List.length_append] at hl
  have hs := h.small
  refine ⟨rfl, by omega, fun i hi => ?_⟩
  obtain ⟨b, off, e, hc⟩ := h.at_ (xs.length + i) (by omega)
  simp only [Option.some.injEq, Addr.mk.injEq, and_true] at e
  obtain ⟨rfl, rfl⟩ := e
  rw [elAt_r] at hc
  refine ⟨_, _, rfl, fun q hq => ?_⟩
  have := hc q hq
  rw [show xs.length * K + i * K + q = 0 + (xs.length + i) * K + q by rw [Nat.add_mul]; omega]
  exact this
set_option maxHeartbeats 400000 in
theorem size_any (x : Int) (w : World) (h : -1000 ≤ x ∧ x ≤ 1000) :
    Calls Try.prog 14 #[.int .i64 x] w fun e w' => e = .returned (.int .i64 (sizeI x)) ∧ w' = w := by
  by_cases hx : x < 0
  all_goals
    have HS : Hid (sizeI x = if x < 0 then -x else x) := hide rfl
    go_enter Try.func14, Try.ntmps14
    go_wp2
    go_ret
    exact ⟨ret_int (by rw [unhide HS]; split <;> omega), rfl⟩
theorem size_is {z : Int} (x : Int) (w : World) (h : -1000 ≤ x ∧ x ≤ 1000) (hz : sizeI x = z) :
    Calls Try.prog 14 #[.int .i64 x] w fun e w' => e = .returned (.int .i64 z) ∧ w' = w := by
  subst hz; exact size_any x w h

end Go.Proofs.Ytidgkkldhnckeae
