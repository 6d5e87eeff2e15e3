/-
  Worlds in which only blocks from one number up to another have turned; what is read, owned or boxed elsewhere stays. No condition.
  A fleet's lists, read; made by a call, each in memory of its own; where they lie. No condition.
-/
import Derived.Test.YtfnnfldfnjnlfagMBlk
import Derived.Test.YtfnnfldfnjnlfagSmall
import Derived.Test.YtfnnfldfnjnlfagMLowPure
import Derived.Test.YtfnnfldfnjnlfagMaPure

namespace Go.Proofs.Ytfnnfldfnjnlfag
open Go.RowKit

/-- Only blocks from lo on, and below hi, have turned. -/
structure Only (lo hi : Nat) (w w' : World) : Prop where
  os : w'.os = w.os
  tape : w'.tape = w.tape
  output : w'.output = w.output
  size : w.heap.size ≤ w'.heap.size
  block : ∀ k, k < w.heap.size → (k < lo ∨ hi ≤ k) → w'.heap[k]? = w.heap[k]?
theorem Only.refl (lo hi : Nat) (w : World) : Only lo hi w w := ⟨rfl, rfl, rfl, Nat.le_refl _, fun _ _ _ => rfl⟩
theorem Only.trans {lo hi : Nat} {a b c : World} (h : Only lo hi a b) (k : Only lo hi b c) : Only lo hi a c :=
  ⟨k.os.trans h.os, k.tape.trans h.tape, k.output.trans h.output, Nat.le_trans h.size k.size, fun i hi he => (k.block i (Nat.lt_of_lt_of_le hi h.size) he).trans (h.block i hi he)⟩
theorem Only.of_row {lo hi : Nat} {w w' : World} {row : Option Nat} (h : w.grownBy w' row) (hr : ∀ g, row = some g → lo ≤ g ∧ g < hi) : Only lo hi w w' :=
  ⟨h.os, h.tape, h.output, h.size, fun k hk he => h.block k hk (fun e => by have := hr k e.symm; omega)⟩
theorem Only.of_below {lo hi : Nat} {w w' : World} (h : Below w.heap.size w w') : Only lo hi w w' :=
  ⟨h.os, h.tape, h.output, h.size, fun k hk _ => h.block k hk⟩
theorem Only.mono {lo hi lo' hi' : Nat} {w w' : World} (h : Only lo hi w w') (h1 : lo' ≤ lo) (h2 : hi ≤ hi') : Only lo' hi' w w' :=
  ⟨h.os, h.tape, h.output, h.size, fun k hk he => h.block k hk (by omega)⟩
theorem Only.below {lo hi B : Nat} {w w' : World} (h : Only lo hi w w') (hb : B ≤ lo) (hs : B ≤ w.heap.size) : Below B w w' :=
  ⟨h.os, h.tape, h.output, h.size, fun k hk => h.block k (by omega) (by omega)⟩
theorem below_only {B lo hi : Nat} {a w w' : World} (h : Below B a w) (k : Only lo hi w w') (hb : B ≤ lo) (hs : B ≤ a.heap.size) : Below B a w' :=
  h.trans (k.below hb (Nat.le_trans hs h.size))
theorem Blk.only {lo hi : Nat} {w w' : World} {B : Nat} {vs : List Value} (h : Blk w B vs) (k : Only lo hi w w') (ho : B < lo ∨ hi ≤ B) : Blk w' B vs := by
  have hb := k.block B h.lt ho
  refine ⟨fun i hi => (World.cell?_of_block (a := ⟨B, i, none⟩) hb).trans (h.c i hi), fun i hi => ?_, Nat.lt_of_lt_of_le h.lt k.size⟩
  have h2 := h.f i hi
  unfold World.frozen? at h2 ⊢
  simp only at h2 ⊢
  rw [hb]; exact h2
theorem OwnE.only {α : Type} [Inhabited α] {K : Nat} {cells : α → Nat → Value} {lo hi : Nat} {w w' : World} {base : Nat} {T : TypeId} {v : Value} {ps : List α} (h : OwnE K cells w base T v ps) (k : Only lo hi w w') (hne : ∀ g, v.ownBlock = some g → g < lo ∨ hi ≤ g) : OwnE K cells w' base T v ps := by
  obtain ⟨xs, ⟨h1, h2⟩, hx⟩ := h.own
  refine ⟨⟨xs, ⟨h1, ?_⟩, hx⟩⟩
  rcases h2 with h2 | ⟨g, cap, cur, rfl, b, c, d⟩
  · exact .inl h2
  · refine .inr ⟨g, cap, cur, rfl, b, ?_, d⟩
    have hg : g < w.heap.size := by
      rcases Nat.lt_or_ge g w.heap.size with hlt | hge
      · exact hlt
      · rw [Array.getElem?_eq_none hge] at c; cases c
    rw [k.block g hg (hne g rfl)]; exact c
theorem OwnI.only {lo hi : Nat} {w w' : World} {base : Nat} {v : Value} {zs : List Int} (h : OwnI w base v zs) (k : Only lo hi w w') (hne : ∀ g, v.ownBlock = some g → g < lo ∨ hi ≤ g) : OwnI w' base v zs := by
  obtain ⟨xs, ⟨h1, h2⟩, hx⟩ := h.own
  refine ⟨⟨xs, ⟨h1, ?_⟩, hx⟩, h.fit⟩
  rcases h2 with h2 | ⟨g, cap, cur, rfl, b, c, d⟩
  · exact .inl h2
  · refine .inr ⟨g, cap, cur, rfl, b, ?_, d⟩
    have hg : g < w.heap.size := by
      rcases Nat.lt_or_ge g w.heap.size with hlt | hge
      · exact hlt
      · rw [Array.getElem?_eq_none hge] at c; cases c
    rw [k.block g hg (hne g rfl)]; exact c
theorem ownE_nil {α : Type} [Inhabited α] {K : Nat} {cells : α → Nat → Value} (w : World) (base : Nat) (T : TypeId) : OwnE K cells w base T (.slice none 0 0) ([] : List α) :=
  ⟨⟨[], by simpa using World.ownsRow_nil w base T K, fun j hj => by simp at hj⟩⟩
theorem ownI_nil (w : World) (base : Nat) : OwnI w base (.slice none 0 0) [] :=
  ⟨⟨[], World.ownsRow_nil w base _ 1, fun j hj => by simp at hj⟩, fun i => by simp [nth]⟩
theorem fresh_own {g l c : Nat} {i : Nat} (h : (Value.slice (some ⟨g, 0, none⟩) l c).ownBlock = some i) : i = g := (Option.some.inj h).symm


end Go.Proofs.Ytfnnfldfnjnlfag

namespace Go.Proofs.Ytfnnfldfnjnlfag
open Go.RowKit

/-- Its lists, read. -/
structure FlIn (w : World) (a1 a2 a3 : Option Addr) (l1 l2 l3 : Nat) (z1 : List Ts) (z2 : List Cr) (z3 : List Df) : Prop where
  r1 : RowE 7 tsC w a1 l1 z1
  r2 : RowE 3 crC w a2 l2 z2
  r3 : RowE 3 dfC w a3 l3 z3
theorem FlIn.below {w w' : World} {a1 a2 a3 : Option Addr} {l1 l2 l3 : Nat} {z1 : List Ts} {z2 : List Cr} {z3 : List Df} (h : FlIn w a1 a2 a3 l1 l2 l3 z1 z2 z3) (k : Below w.heap.size w w') : FlIn w' a1 a2 a3 l1 l2 l3 z1 z2 z3 :=
  ⟨h.r1.below k, h.r2.below k, h.r3.below k⟩
/-- Its lists that a call has made, each in memory of its own. -/
structure FlOwn (w : World) (base : Nat) (a1 a2 a3 : Option Addr) (l1 c1 l2 c2 l3 c3 : Nat) (z1 : List Ts) (z2 : List Cr) (z3 : List Df) : Prop where
  o1 : OwnE 7 tsC w base 44 (.slice a1 l1 c1) z1
  o2 : OwnE 3 crC w base 54 (.slice a2 l2 c2) z2
  o3 : OwnE 3 dfC w base 56 (.slice a3 l3 c3) z3
  p12 : ∀ g, (Value.slice a1 l1 c1).ownBlock = some g → (Value.slice a2 l2 c2).ownBlock ≠ some g
  p13 : ∀ g, (Value.slice a1 l1 c1).ownBlock = some g → (Value.slice a3 l3 c3).ownBlock ≠ some g
  p23 : ∀ g, (Value.slice a2 l2 c2).ownBlock = some g → (Value.slice a3 l3 c3).ownBlock ≠ some g
theorem FlOwn.below {w w' : World} {base : Nat} {a1 a2 a3 : Option Addr} {l1 c1 l2 c2 l3 c3 : Nat} {z1 : List Ts} {z2 : List Cr} {z3 : List Df} (h : FlOwn w base a1 a2 a3 l1 c1 l2 c2 l3 c3 z1 z2 z3) (k : Below w.heap.size w w') : FlOwn w' base a1 a2 a3 l1 c1 l2 c2 l3 c3 z1 z2 z3 :=
  ⟨h.o1.below k, h.o2.below k, h.o3.below k, h.p12, h.p13, h.p23⟩
theorem FlOwn.mono {w : World} {base : Nat} {a1 a2 a3 : Option Addr} {l1 c1 l2 c2 l3 c3 : Nat} {z1 : List Ts} {z2 : List Cr} {z3 : List Df} (h : FlOwn w base a1 a2 a3 l1 c1 l2 c2 l3 c3 z1 z2 z3) {base' : Nat} (hb : base' ≤ base) : FlOwn w base' a1 a2 a3 l1 c1 l2 c2 l3 c3 z1 z2 z3 :=
  ⟨h.o1.mono hb, h.o2.mono hb, h.o3.mono hb, h.p12, h.p13, h.p23⟩
theorem FlOwn.read {w : World} {base : Nat} {a1 a2 a3 : Option Addr} {l1 c1 l2 c2 l3 c3 : Nat} {z1 : List Ts} {z2 : List Cr} {z3 : List Df} (h : FlOwn w base a1 a2 a3 l1 c1 l2 c2 l3 c3 z1 z2 z3) : FlIn w a1 a2 a3 l1 l2 l3 z1 z2 z3 :=
  ⟨h.o1.row, h.o2.row, h.o3.row⟩
/-- Blocks of its lists lie from base on, below a number. -/
def FlLies (base hi : Nat) (a1 a2 a3 : Option Addr) (l1 c1 l2 c2 l3 c3 : Nat) : Prop :=
  (∀ g, (Value.slice a1 l1 c1).ownBlock = some g → base ≤ g ∧ g < hi) ∧ (∀ g, (Value.slice a2 l2 c2).ownBlock = some g → base ≤ g ∧ g < hi) ∧ (∀ g, (Value.slice a3 l3 c3).ownBlock = some g → base ≤ g ∧ g < hi)
theorem FlOwn.lies {w : World} {base : Nat} {a1 a2 a3 : Option Addr} {l1 c1 l2 c2 l3 c3 : Nat} {z1 : List Ts} {z2 : List Cr} {z3 : List Df} (h : FlOwn w base a1 a2 a3 l1 c1 l2 c2 l3 c3 z1 z2 z3) : FlLies base w.heap.size a1 a2 a3 l1 c1 l2 c2 l3 c3 :=
  ⟨h.o1.lies, h.o2.lies, h.o3.lies⟩
theorem FlOwn.only {w w' : World} {base : Nat} {a1 a2 a3 : Option Addr} {l1 c1 l2 c2 l3 c3 : Nat} {z1 : List Ts} {z2 : List Cr} {z3 : List Df} {lo hi b u : Nat} (h : FlOwn w base a1 a2 a3 l1 c1 l2 c2 l3 c3 z1 z2 z3) (k : Only lo hi w w') (hl : FlLies b u a1 a2 a3 l1 c1 l2 c2 l3 c3) (hs : u ≤ lo ∨ hi ≤ b) : FlOwn w' base a1 a2 a3 l1 c1 l2 c2 l3 c3 z1 z2 z3 :=
  ⟨h.o1.only k (fun g hg => by have := hl.1 g hg; omega), h.o2.only k (fun g hg => by have := hl.2.1 g hg; omega), h.o3.only k (fun g hg => by have := hl.2.2 g hg; omega), h.p12, h.p13, h.p23⟩
theorem FlOwn.set_other {w : World} {base : Nat} {a1 a2 a3 : Option Addr} {l1 c1 l2 c2 l3 c3 : Nat} {z1 : List Ts} {z2 : List Cr} {z3 : List Df} (h : FlOwn w base a1 a2 a3 l1 c1 l2 c2 l3 c3 z1 z2 z3) {S o : Nat} (u : Value) (n1 : (Value.slice a1 l1 c1).ownBlock ≠ some S) (n2 : (Value.slice a2 l2 c2).ownBlock ≠ some S) (n3 : (Value.slice a3 l3 c3).ownBlock ≠ some S) : FlOwn (w.setCell ⟨S, o, none⟩ u) base a1 a2 a3 l1 c1 l2 c2 l3 c3 z1 z2 z3 :=
  ⟨h.o1.set_other u n1, h.o2.set_other u n2, h.o3.set_other u n3, h.p12, h.p13, h.p23⟩

end Go.Proofs.Ytfnnfldfnjnlfag
