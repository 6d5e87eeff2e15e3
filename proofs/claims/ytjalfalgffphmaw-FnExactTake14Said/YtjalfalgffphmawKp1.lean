/-
  A loop that puts one whole number after the other behind a list of its own, with variables in blocks of their own ahead of it: what stays. No condition.
  A variable's block and lists of texts of one's own, all apart: what stays when one list grows, or a cell of the variable is set. No condition.
-/
import Derived.Test.YtjalfalgffphmawRules1
import Derived.Test.YtjalfalgffphmawApps1
import Derived.Test.YtjalfalgffphmawStrTo

namespace Go.Proofs.Ytjalfalgffphmaw
open Go.RowKit

theorem Blk.apart {w w' : World} {B : Nat} {vs : List Value} {row : Option Nat} (h : Blk w B vs) (k : w.grownBy w' row) (hne : some B ≠ row) : Blk w' B vs := by
  have hb := k.block B h.lt hne
  refine ⟨fun i hi => (World.cell?_of_block (a := ⟨B, i, none⟩) hb).trans (h.c i hi), fun i hi => ?_, Nat.lt_of_lt_of_le h.lt k.size⟩
  have h2 := h.f i hi
  unfold World.frozen? at h2 ⊢
  simp only at h2 ⊢
  rw [hb]; exact h2

structure LoopAt (w wr : World) (boxes : List (Nat × List Value)) (base g k c : Nat) (zs : List Int) : Prop where
  x : ∀ p ∈ boxes, Blk wr p.1 p.2 ∧ p.1 < base
  o : OwnI wr base (.slice (some ⟨g, 0, none⟩) k c) zs
  l : zs.length = k
  b : Below w.heap.size w wr
  s : w.heap.size ≤ base
  t : base ≤ wr.heap.size
theorem LoopAt.below {w wr w' : World} {boxes : List (Nat × List Value)} {base g k c : Nat} {zs : List Int} (h : LoopAt w wr boxes base g k c zs) (j : Below wr.heap.size wr w') : LoopAt w w' boxes base g k c zs :=
  ⟨fun p hp => ⟨(h.x p hp).1.below j, (h.x p hp).2⟩, h.o.below j, h.l, h.b.trans (j.mono (Nat.le_trans h.s h.t)), h.s, Nat.le_trans h.t j.size⟩
theorem LoopAt.step {w wr w' : World} {boxes : List (Nat × List Value)} {base g k c g' c' : Nat} {zs : List Int} {x : Int} (h : LoopAt w wr boxes base g k c zs) (o : OwnI w' base (.slice (some ⟨g', 0, none⟩) (k + 1) c') (zs ++ [x])) (gr : wr.grownBy w' (Value.slice (some ⟨g, 0, none⟩) k c).ownBlock) : LoopAt w w' boxes base g' (k + 1) c' (zs ++ [x]) := by
  have lg := h.o.lies
  refine ⟨fun p hp => ⟨(h.x p hp).1.apart gr ?_, (h.x p hp).2⟩, o, by simp [h.l], h.b.grown gr (Nat.le_trans h.s h.t) (fun q hq => Nat.le_trans h.s (lg q hq).1), h.s, Nat.le_trans h.t gr.size⟩
  intro e
  have := lg p.1 e.symm
  have := (h.x p hp).2
  omega

end Go.Proofs.Ytjalfalgffphmaw

namespace Go.Proofs.Ytjalfalgffphmaw
open Go.RowKit

structure Kp (W0 wr : World) (O : Nat) (cs : List Value) (ow : List (Value × List ByteArray)) : Prop where
  blk : Blk wr O cs
  own : ∀ p ∈ ow, OwnE 1 stC wr W0.heap.size 9 p.1 p.2 ∧ p.1.ownBlock ≠ some O
  far : ow.Pairwise (fun p q => ∀ g, p.1.ownBlock = some g → q.1.ownBlock ≠ some g)
  bel : Below W0.heap.size W0 wr
  pl : W0.heap.size ≤ O
theorem Kp.below {W0 wr w' : World} {O : Nat} {cs : List Value} {ow : List (Value × List ByteArray)} (K : Kp W0 wr O cs ow) (b : Below wr.heap.size wr w') : Kp W0 w' O cs ow :=
  ⟨K.blk.below b, fun p hp => ⟨(K.own p hp).1.below b, (K.own p hp).2⟩, K.far, K.bel.trans (b.mono K.bel.size), K.pl⟩
theorem Kp.perm {W0 wr : World} {O : Nat} {cs : List Value} {ow ow' : List (Value × List ByteArray)} (K : Kp W0 wr O cs ow) (h : ow.Perm ow') : Kp W0 wr O cs ow' :=
  ⟨K.blk, fun p hp => K.own p (h.mem_iff.2 hp), (h.pairwise_iff (fun hab g hb ha => hab g ha hb)).1 K.far, K.bel, K.pl⟩
theorem Kp.new {W0 wr : World} {O : Nat} {cs : List Value} {ow : List (Value × List ByteArray)} {v : Value} {x : List ByteArray} (K : Kp W0 wr O cs ow) (o : OwnE 1 stC wr W0.heap.size 9 v x) (hO : v.ownBlock ≠ some O) (hf : ∀ p ∈ ow, ∀ g, v.ownBlock = some g → p.1.ownBlock ≠ some g) : Kp W0 wr O cs ((v, x) :: ow) :=
  ⟨K.blk, fun p hp => by rcases List.mem_cons.1 hp with rfl | h; exact ⟨o, hO⟩; exact K.own p h, List.pairwise_cons.2 ⟨hf, K.far⟩, K.bel, K.pl⟩
theorem Kp.put {W0 wr : World} {O : Nat} {cs : List Value} {ow : List (Value × List ByteArray)} (K : Kp W0 wr O cs ow) (i : Nat) (hi : i < cs.length) (v : Value) : Kp W0 (wr.setCell ⟨O, i, none⟩ v) O (cs.set i v) ow :=
  ⟨K.blk.set i hi v, fun p hp => ⟨(K.own p hp).1.set_other _ (K.own p hp).2, (K.own p hp).2⟩, K.far, K.bel.setCell K.pl _, K.pl⟩
theorem Kp.app {W0 wr w' : World} {O : Nat} {cs : List Value} {ow : List (Value × List ByteArray)} {v : Value} {x : List ByteArray} {z : ByteArray} {g n cp : Nat} (K : Kp W0 wr O cs ((v, x) :: ow)) (o : OwnE 1 stC w' W0.heap.size 9 (.slice (some ⟨g, 0, none⟩) n cp) (x ++ [z])) (gr : wr.grownBy w' v.ownBlock) (hg : v.ownBlock = some g ∨ wr.heap.size < g) : Kp W0 w' O cs ((.slice (some ⟨g, 0, none⟩) n cp, x ++ [z]) :: ow) := by
  have hv := K.own (v, x) (List.mem_cons_self ..)
  have hp := List.pairwise_cons.1 K.far
  have hO := K.blk.lt
  refine ⟨K.blk.apart gr (fun e => hv.2 e.symm), fun p hm => ?_, List.pairwise_cons.2 ⟨fun q hq g' hg' => ?_, hp.2⟩, K.bel.grown gr K.bel.size (fun q hq => (hv.1.lies q hq).1), K.pl⟩
  · rcases List.mem_cons.1 hm with rfl | h
    · refine ⟨o, fun e => ?_⟩
      have e : g = O := Option.some.inj e
      rcases hg with c | c
      · exact hv.2 (by rw [c, e])
      · omega
    · have k := K.own p (List.mem_cons_of_mem _ h)
      exact ⟨k.1.far gr (fun q hq e => hp.1 p h q e.symm hq), k.2⟩
  · have e : g = g' := Option.some.inj hg'
    subst e
    have k := K.own q (List.mem_cons_of_mem _ hq)
    rcases hg with c | c
    · exact hp.1 q hq g c
    · intro e
      have := (k.1.lies g e).2
      omega

end Go.Proofs.Ytjalfalgffphmaw
