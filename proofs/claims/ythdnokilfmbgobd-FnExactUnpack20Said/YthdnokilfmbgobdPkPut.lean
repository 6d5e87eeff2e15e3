/-
  The program's packer: bytes put behind bytes, or a panic where there is no room; a change. Nothing is written but the packer's own memory.
-/
import Derived.Test.YthdnokilfmbgobdPkPure
import Derived.Test.YthdnokilfmbgobdRcOk
import Derived.Test.YthdnokilfmbgobdLoopAt
import Derived.Test.YthdnokilfmbgobdAppM
import Derived.Test.YthdnokilfmbgobdAppBy
import Derived.Test.YthdnokilfmbgobdBuLit
import Derived.WalkLawsBesides
namespace Go.Proofs.Ythdnokilfmbgobd
open Go Go.RowKit

/-- A list of whole numbers and one of bytes lie apart. -/
theorem ownI_by {w : World} {base base' : Nat} {v v' : Value} {L zs : List Int} (h : OwnI w base v L) (h' : OwnE 1 byC w base' 5 v' zs) : ∀ g, v.ownBlock = some g → v'.ownBlock ≠ some g := by
  intro g hg hg'
  obtain ⟨xs, ho, _⟩ := h.own
  obtain ⟨ys, ho', _⟩ := h'.own
  rcases ho.2 with ⟨e, _⟩ | ⟨g1, c1, cur1, rfl, _, hb1, _⟩
  · rw [e] at hg; simp [Value.ownBlock] at hg
  rcases ho'.2 with ⟨e, _⟩ | ⟨g2, c2, cur2, rfl, _, hb2, _⟩
  · rw [e] at hg'; simp [Value.ownBlock] at hg'
  have e1 : g1 = g := Option.some.inj hg
  have e2 : g2 = g := Option.some.inj hg'
  rw [e1] at hb1
  rw [e2, hb1] at hb2
  simp only [Option.some.injEq, Obj.cells.injEq] at hb2
  exact absurd hb2.2.1 (by decide)
/-- The packer at block P, and the bytes that it holds. -/
structure Pk (w : World) (P : Nat) (b : Option Addr) (n d : Nat) (zs : List Int) : Prop where
  p : Blk w P [.slice b n d]
  o : OwnE 1 byC w (P + 1) 5 (.slice b n d) zs
  l : zs.length = n
/-- What stays: memory ahead of the packer, and lists of whole numbers behind it. -/
structure PkS (P : Nat) (w w' : World) : Prop where
  b : Below P w w'
  i : ∀ a k c L, OwnI w (P + 1) (.slice a k c) L → OwnI w' (P + 1) (.slice a k c) L
theorem PkS.refl (P : Nat) (w : World) : PkS P w w := ⟨Below.refl _ _, fun _ _ _ _ h => h⟩
theorem PkS.trans {P : Nat} {w w1 w2 : World} (h : PkS P w w1) (k : PkS P w1 w2) : PkS P w w2 := ⟨h.b.trans k.b, fun a n c L o => k.i a n c L (h.i a n c L o)⟩
theorem PkS.new {P : Nat} {w w' : World} (h : Below w.heap.size w w') (hP : P < w.heap.size) : PkS P w w' := ⟨h.mono (by omega), fun _ _ _ _ o => o.below h⟩
theorem Pk.below {w w' : World} {P : Nat} {b : Option Addr} {n d : Nat} {zs : List Int} (h : Pk w P b n d zs) (k : Below w.heap.size w w') : Pk w' P b n d zs := ⟨h.p.below k, h.o.below k, h.l⟩
/-- The world behind an append and the store of what it gave. -/
theorem Pk.put {w w9 : World} {P : Nat} {b b' : Option Addr} {n d m d' : Nat} {zs ys : List Int} (h : Pk w P b n d zs) (gr : w.grownBy w9 (Value.slice b n d).ownBlock) (o : OwnE 1 byC w9 (P + 1) 5 (.slice b' m d') (zs ++ ys)) (hm : (zs ++ ys).length = m) :
    Pk (w9.setCell ⟨P, 0, none⟩ (.slice b' m d')) P b' m d' (zs ++ ys) ∧ PkS P w (w9.setCell ⟨P, 0, none⟩ (.slice b' m d')) := by
  have lz := h.o.lies
  have lo := o.lies
  have hP := h.p.lt
  have k9 := h.p.apart gr (fun e => by have := (lz P e.symm).1; omega)
  refine ⟨⟨k9.set 0 (by simp) _, o.set_other _ (fun e => by have := (lo P e).1; omega), hm⟩, ⟨?_, fun a k c L oi => ?_⟩⟩
  · exact (((Below.refl P w).grown gr (by omega) (fun k hk => by have := (lz k hk).1; omega))).setCell (by simp) _
  · refine (oi.far gr (fun g hg e => ownI_by oi h.o g hg e.symm)).set_other _ (fun e => ?_)
    have := (oi.lies P e).1; omega

set_option maxHeartbeats 400000 in
theorem isSmall_is {b : Bool} (c : Int) (w : World) (h : inB c (-100) 100 = b) :
    Calls Try.prog 42 #[.int .i64 c] w fun e w' => e = .returned (.bool b) ∧ w' = w := by
  go_enter Try.func42, Try.ntmps42
  go_wp2_with fail
  refine (within_is _ _ _ _ h).mono ?_
  rintro e w' ⟨rfl, rfl⟩
  go_wp2_with fail
  go_ret
  exact ⟨rfl, rfl⟩

end Go.Proofs.Ythdnokilfmbgobd
