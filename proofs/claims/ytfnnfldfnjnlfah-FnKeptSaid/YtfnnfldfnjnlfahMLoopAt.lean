/-
  A loop that puts one whole number after the other behind a list of its own, with variables in blocks of their own ahead of it: what stays. No condition.
  The law's size, copy and comparison of a list of bytes, and its marks. The copy at lists of at most 1048576; nothing that was there is written, the marks only into the list's own memory.
-/
import Derived.Test.YtfnnfldfnjnlfahBlks
import Derived.Test.YtfnnfldfnjnlfahMAppI
import Derived.Test.YtfnnfldfnjnlfahMSmall
import Derived.Test.YtfnnfldfnjnlfahRowE
import Derived.Deep.DrawnRows
import Derived.Deep.RegionHeld3

namespace Go.Proofs.Ytfnnfldfnjnlfah
open Go.RowKit

theorem Blk.apart {w w' : World} {B : Nat} {vs : List Value} {row : Option Nat} (h : Blk w B vs) (k : w.grownBy w' row) (hne : some B ≠ row) : Blk w' B vs := by
  have hb := k.block B h.lt hne
  refine ⟨fun i hi => (World.cell?_of_block (a := ⟨B, i, none⟩) hb).trans (h.c i hi), fun i hi => ?_, Nat.lt_of_lt_of_le h.lt k.size⟩
  have h2 := h.f i hi
  unfold World.frozen? at h2 ⊢
  simp only at h2 ⊢
  rw [hb]; exact h2

structure LoopAt (w wr : World) (boxes : List (Nat × List Value)) (base g k c : Nat) (zs : List Int) : Prop where
  x : ∀ p ∈ boxes, Blk wr p.1 p.2 ∧ p.1 < base
  o : OwnI wr base (.slice (some ⟨g, 0, none⟩) k c) zs
  l : zs.length = k
  b : Below w.heap.size w wr
  s : w.heap.size ≤ base
  t : base ≤ wr.heap.size
theorem LoopAt.below {w wr w' : World} {boxes : List (Nat × List Value)} {base g k c : Nat} {zs : List Int} (h : LoopAt w wr boxes base g k c zs) (j : Below wr.heap.size wr w') : LoopAt w w' boxes base g k c zs :=
  ⟨fun p hp => ⟨(h.x p hp).1.below j, (h.x p hp).2⟩, h.o.below j, h.l, h.b.trans (j.mono (Nat.le_trans h.s h.t)), h.s, Nat.le_trans h.t j.size⟩
theorem LoopAt.step {w wr w' : World} {boxes : List (Nat × List Value)} {base g k c g' c' : Nat} {zs : List Int} {x : Int} (h : LoopAt w wr boxes base g k c zs) (o : OwnI w' base (.slice (some ⟨g', 0, none⟩) (k + 1) c') (zs ++ [x])) (gr : wr.grownBy w' (Value.slice (some ⟨g, 0, none⟩) k c).ownBlock) : LoopAt w w' boxes base g' (k + 1) c' (zs ++ [x]) := by
  have lg := h.o.lies
  refine ⟨fun p hp => ⟨(h.x p hp).1.apart gr ?_, (h.x p hp).2⟩, o, by simp [h.l], h.b.grown gr (Nat.le_trans h.s h.t) (fun q hq => Nat.le_trans h.s (lg q hq).1), h.s, Nat.le_trans h.t gr.size⟩
  intro e
  have := lg p.1 e.symm
  have := (h.x p hp).2
  omega

end Go.Proofs.Ytfnnfldfnjnlfah

namespace Go.Proofs.Ytfnnfldfnjnlfah
open Go.RowKit
attribute [local go_sem ↓] Go.wp_at_zero Go.wp_at_succ

/-- A byte's one cell. -/
def byC (x : Int) : Nat → Value | _ => .int .u8 x

theorem infoBy : (Try.prog.info? 5).map (fun i => (i.zero, i.size, i.bytes)) = some (some (.int .u8 0), 1, 1) := by kernel_rfl



/-- The mark of a place. -/
def markY (k : Int) : Int := IntKind.u8.wrap k
/-- After n rounds of the marking. -/
def markBy (ps : List Int) (k : Int) : Nat → List Int
  | 0 => ps
  | n + 1 => (markBy ps k n).set n (markY (k + n))
theorem markBy_len (ps : List Int) (k : Int) (n : Nat) : (markBy ps k n).length = ps.length := by
  induction n with
  | zero => rfl
  | succ n ih => simp [markBy, ih]
theorem markBy_at (ps : List Int) (k : Int) : ∀ n, n ≤ ps.length → ∀ i, i < n → elAt (markBy ps k n) i = markY (k + i) := by
  intro n
  induction n with
  | zero => intro _ i hi; omega
  | succ n ih =>
    intro hn i hi
    have hl : n < (markBy ps k n).length := by rw [markBy_len]; omega
    show elAt ((markBy ps k n).set n (markY (k + n))) i = _
    rw [elAt_set _ _ _ _ hl]
    by_cases e : i = n
    · subst e; simp
    · rw [if_neg e]; exact ih (by omega) i (by omega)



end Go.Proofs.Ytfnnfldfnjnlfah
