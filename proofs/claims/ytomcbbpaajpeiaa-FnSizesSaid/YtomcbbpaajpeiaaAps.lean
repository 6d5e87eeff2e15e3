/-
  Worlds in which only blocks of a set have turned; what is owned or boxed elsewhere stays. No condition.
-/
import Derived.Test.YtomcbbpaajpeiaaOnly
namespace Go.Proofs.Ytomcbbpaajpeiaa
open Go.RowKit

/-- Only blocks of the set have turned. -/
structure Aps (S : Nat → Prop) (w w' : World) : Prop where
  os : w'.os = w.os
  tape : w'.tape = w.tape
  output : w'.output = w.output
  size : w.heap.size ≤ w'.heap.size
  block : ∀ k, k < w.heap.size → ¬ S k → w'.heap[k]? = w.heap[k]?
theorem Aps.refl (S : Nat → Prop) (w : World) : Aps S w w := ⟨rfl, rfl, rfl, Nat.le_refl _, fun _ _ _ => rfl⟩
theorem Aps.trans {S : Nat → Prop} {a b c : World} (h : Aps S a b) (k : Aps S b c) : Aps S a c :=
  ⟨k.os.trans h.os, k.tape.trans h.tape, k.output.trans h.output, Nat.le_trans h.size k.size, fun i hi he => (k.block i (Nat.lt_of_lt_of_le hi h.size) he).trans (h.block i hi he)⟩
theorem Aps.of_row {S : Nat → Prop} {w w' : World} {row : Option Nat} (h : w.grownBy w' row) (hr : ∀ g, row = some g → S g) : Aps S w w' :=
  ⟨h.os, h.tape, h.output, h.size, fun k hk he => h.block k hk (fun e => he (hr k e.symm))⟩
theorem Aps.of_below {S : Nat → Prop} {w w' : World} (h : Below w.heap.size w w') : Aps S w w' :=
  ⟨h.os, h.tape, h.output, h.size, fun k hk _ => h.block k hk⟩
theorem Aps.mono {S S' : Nat → Prop} {w w' : World} (h : Aps S w w') (h1 : ∀ k, S k → S' k) : Aps S' w w' :=
  ⟨h.os, h.tape, h.output, h.size, fun k hk he => h.block k hk (fun e => he (h1 k e))⟩
theorem Aps.below {S : Nat → Prop} {B : Nat} {w w' : World} (h : Aps S w w') (hb : ∀ k, S k → B ≤ k) (hs : B ≤ w.heap.size) : Below B w w' :=
  ⟨h.os, h.tape, h.output, h.size, fun k hk => h.block k (by omega) (fun e => by have := hb k e; omega)⟩
theorem below_aps {S : Nat → Prop} {B : Nat} {a w w' : World} (h : Below B a w) (k : Aps S w w') (hb : ∀ k, S k → B ≤ k) (hs : B ≤ a.heap.size) : Below B a w' :=
  h.trans (k.below hb (Nat.le_trans hs h.size))
theorem Aps.setS {S : Nat → Prop} {a b : World} (h : Aps S a b) {p : Addr} (hp : S p.block) (v : Value) : Aps S a (b.setCell p v) :=
  h.trans ⟨rfl, rfl, rfl, by simp [World.setCell], fun k _ he => Below.heap_setCell _ _ _ _ (fun e => he (e ▸ hp))⟩
theorem Aps.grow {S : Nat → Prop} {a b c : World} {row : Option Nat} (h : Aps S a b) (gr : b.grownBy c row) (hr : ∀ g, row = some g → S g) : Aps S a c := h.trans (Aps.of_row gr hr)
theorem Aps.alloc {S : Nat → Prop} {a b : World} (h : Aps S a b) (o : Obj) : Aps S a (b.alloc o) := h.trans (Aps.of_below (bel1 _))
theorem Aps.growN {S : Nat → Prop} {a b c : World} {row : Option Nat} (h : Aps S a b) (gr : b.grownBy c row) (hr : ∀ g, row = some g → S g ∨ a.heap.size ≤ g) : Aps S a c :=
  ⟨gr.os.trans h.os, gr.tape.trans h.tape, gr.output.trans h.output, Nat.le_trans h.size gr.size, fun k hk he => (gr.block k (Nat.lt_of_lt_of_le hk h.size) (fun e => by rcases hr k e.symm with x | x; exact he x; omega)).trans (h.block k hk he)⟩
theorem Blk.aps {S : Nat → Prop} {w w' : World} {B : Nat} {vs : List Value} (h : Blk w B vs) (k : Aps S w w') (ho : ¬ S B) : Blk w' B vs := by
  have hb := k.block B h.lt ho
  refine ⟨fun i hi => (World.cell?_of_block (a := ⟨B, i, none⟩) hb).trans (h.c i hi), fun i hi => ?_, Nat.lt_of_lt_of_le h.lt k.size⟩
  have h2 := h.f i hi
  unfold World.frozen? at h2 ⊢
  simp only at h2 ⊢
  rw [hb]; exact h2
theorem OwnE.aps {α : Type} [Inhabited α] {K : Nat} {cells : α → Nat → Value} {S : Nat → Prop} {w w' : World} {base : Nat} {T : TypeId} {v : Value} {ps : List α} (h : OwnE K cells w base T v ps) (k : Aps S w w') (hne : ∀ g, v.ownBlock = some g → ¬ S g) : OwnE K cells w' base T v ps := by
  obtain ⟨xs, ⟨h1, h2⟩, hx⟩ := h.own
  refine ⟨⟨xs, ⟨h1, ?_⟩, hx⟩⟩
  rcases h2 with h2 | ⟨g, cap, cur, rfl, b, c, d⟩
  · exact .inl h2
  · refine .inr ⟨g, cap, cur, rfl, b, ?_, d⟩
    have hg : g < w.heap.size := by
      rcases Nat.lt_or_ge g w.heap.size with hlt | hge
      · exact hlt
      · rw [Array.getElem?_eq_none hge] at c; cases c
    rw [k.block g hg (hne g rfl)]; exact c
/-- A list that was written out, in a block of its own. -/
theorem ownE_lit {α : Type} [Inhabited α] {K : Nat} {cells : α → Nat → Value} {w : World} {base : Nat} {T : TypeId} {ps : List α} {vs : List Value} {n : Nat} (hb : base ≤ w.heap.size) (hn : ps.length = n) (hm : n ≤ 1000) (hl : vs.length = n * K)
    (hc : ∀ j, j < n → ∀ q, q < K → vs[j * K + q]? = some (cells (elAt ps j) q)) : OwnE K cells (w.alloc (Obj.cells vs.toArray T)) base T (.slice (some ⟨w.heap.size, 0, none⟩) n n) ps := by
  subst hn
  refine ⟨⟨vs, ⟨hl, .inr ⟨_, _, vs.toArray, rfl, hb, ?_, Nat.le_refl _, by unfold maxLen; omega, by simpa using hl, by simp [← hl]⟩⟩, hc⟩⟩
  show (w.heap.push _)[w.heap.size]? = _
  simp

end Go.Proofs.Ytomcbbpaajpeiaa
