/-
  The drawing cursor at hand: it lies in one block, the bytes elsewhere, and nothing that was there has turned. What the drawing functions answer, so said. No condition.
  The drawing cursor beside what was there at a start: nothing but the cursor's block has turned below it. No condition. (The same stand in DwIs: never import both.)
  A loop that puts one whole number after the other behind a list of its own, with variables in blocks of their own ahead of it: what stays. No condition.
  A variable's block and lists of texts of one's own, all apart: what stays when one list grows, or a cell of the variable is set. No condition.
-/
import Derived.Test.YtfehfocfoegbdaaKeeps
import Derived.Test.YtfehfocfoegbdaaMMarkI
import Derived.Test.YtfehfocfoegbdaaMBlks
import Derived.Test.YtfehfocfoegbdaaMStrTo

namespace Go.Proofs.Ytfehfocfoegbdaa
open Go.RowKit

structure Dr (w : World) (C : Nat) (a : Option Addr) (len cap : Nat) (W : World) : Prop where
  cur : Cur W C a len cap
  byt : Bytes W a len
  bel : Below w.heap.size w W
  ne : ∀ b off, a = some ⟨b, off, none⟩ → b ≠ C
  ge : w.heap.size ≤ C
  lt : C < W.heap.size
theorem Dr.below {w : World} {C : Nat} {a : Option Addr} {len cap : Nat} {W W' : World} (h : Dr w C a len cap W) (b : Below W.heap.size W W') : Dr w C a len cap W' :=
  ⟨h.cur.below b, h.byt.below b, h.bel.trans (b.mono h.bel.size), h.ne, h.ge, Nat.lt_of_lt_of_le h.lt b.size⟩
theorem Dr.step {w : World} {C : Nat} {a : Option Addr} {len cap : Nat} {W W' : World} (h : Dr w C a len cap W) (c : Cur W' C a len cap) (g : W.grownBy W' (some C)) : Dr w C a len cap W' :=
  ⟨c, h.byt.far g (fun b off e => by have := h.ne b off e; simp [this]), h.bel.grown g h.bel.size (fun k hk => by cases hk; exact h.ge), h.ne, h.ge, Nat.lt_of_lt_of_le h.lt g.size⟩
/-- A list that grows behind the cursor's block: what is appended leaves the cursor. -/
theorem Dr.own {w : World} {C : Nat} {a : Option Addr} {len cap : Nat} {W W' : World} {row : Option Nat} (h : Dr w C a len cap W) (g : W.grownBy W' row) (hr : ∀ k, row = some k → C < k) (hin : ∀ b off, a = some ⟨b, off, none⟩ → b < w.heap.size) : Dr w C a len cap W' := by
  have ge := h.ge
  refine ⟨h.cur.far g (fun e => ?_), h.byt.far g (fun b off e e2 => ?_), h.bel.grown g h.bel.size (fun k hk => ?_), h.ne, h.ge, Nat.lt_of_lt_of_le h.lt g.size⟩
  · have := hr C e.symm; omega
  · have h1 := hr b e2.symm; have h2 := hin b off e; omega
  · have := hr k hk; omega
theorem drNew (a : Option Addr) (len cap : Nat) (w : World) (hb : Bytes w a len) (hin : ∀ b off, a = some ⟨b, off, none⟩ → b < w.heap.size) :
    Calls Try.prog 12 #[.slice a len cap] w fun e w' => e = .returned (.pointer (some ⟨w.heap.size, 0, none⟩)) ∧ Dr w w.heap.size a len cap w' ∧ Below w.heap.size w w' := by
  refine (l1New_any a len cap w hb).mono ?_
  rintro x w' ⟨rfl, hc, b⟩
  exact ⟨rfl, ⟨hc, hb.below b, b, fun b' off e => by have := hin b' off e; omega, Nat.le_refl _, hc.lt⟩, b⟩
theorem drBelow {w : World} {C : Nat} {a : Option Addr} {len cap : Nat} (n : Int) (W : World) (h : Dr w C a len cap W) (hn : 1 ≤ n ∧ n ≤ 1000000) :
    Calls Try.prog 14 #[.pointer (some ⟨C, 0, none⟩), .int .i64 n] W fun e w' => ∃ x : Int, e = .returned (.int .i64 x) ∧ (0 ≤ x ∧ x < n) ∧ Dr w C a len cap w' ∧ W.grownBy w' (some C) := by
  refine (l1Below_any C a len cap n W h.cur h.byt h.ne hn).mono ?_
  rintro e w' ⟨x, rfl, hx, hc, g⟩
  exact ⟨x, rfl, hx, h.step hc g, g⟩
theorem drOnce {w : World} {C : Nat} {a : Option Addr} {len cap : Nat} (n : Int) (W : World) (h : Dr w C a len cap W) (hn : 1 ≤ n ∧ n ≤ 1000000) :
    Calls Try.prog 15 #[.pointer (some ⟨C, 0, none⟩), .int .i64 n] W fun e w' => ∃ x : Bool, e = .returned (.bool x) ∧ Dr w C a len cap w' ∧ W.grownBy w' (some C) := by
  refine (l1Once_any C a len cap n W h.cur h.byt h.ne hn).mono ?_
  rintro e w' ⟨x, rfl, hc, g⟩
  exact ⟨x, rfl, h.step hc g, g⟩

end Go.Proofs.Ytfehfocfoegbdaa

namespace Go.Proofs.Ytfehfocfoegbdaa
open Go Go.RowKit

structure Dk (w : World) (C : Nat) (a : Option Addr) (len cap : Nat) (W0 W : World) : Prop where
  d : Dr w C a len cap W
  g : Aps (· = C) W0 W
  inn : ∀ b off, a = some ⟨b, off, none⟩ → b < w.heap.size
  lo : C < W0.heap.size
theorem Dk.start {w : World} {C : Nat} {a : Option Addr} {len cap : Nat} {W : World} (h : Dr w C a len cap W) (hin : ∀ b off, a = some ⟨b, off, none⟩ → b < w.heap.size) : Dk w C a len cap W W := ⟨h, Aps.refl _ _, hin, h.lt⟩
theorem Dk.below {w : World} {C : Nat} {a : Option Addr} {len cap : Nat} {W0 W W' : World} (h : Dk w C a len cap W0 W) (b : Below W.heap.size W W') : Dk w C a len cap W0 W' := ⟨h.d.below b, h.g.trans (Aps.of_below b), h.inn, h.lo⟩
theorem Dk.call {w : World} {C : Nat} {a : Option Addr} {len cap : Nat} {W0 W W' : World} (h : Dk w C a len cap W0 W) (gr : W.grownBy W' (some C)) (d : Dr w C a len cap W') : Dk w C a len cap W0 W' := ⟨d, h.g.grow gr (fun _ hq => (Option.some.inj hq).symm), h.inn, h.lo⟩
theorem Dk.own {w : World} {C : Nat} {a : Option Addr} {len cap : Nat} {W0 W W' : World} {B : Nat} (h : Dk w C a len cap W0 W) (gr : W.grownBy W' (some B)) (hB : W0.heap.size ≤ B) : Dk w C a len cap W0 W' :=
  ⟨h.d.own gr (fun k hk => by have e := Option.some.inj hk; have := h.lo; omega) h.inn, h.g.growN gr (fun _ hq => .inr (by have e := Option.some.inj hq; omega)), h.inn, h.lo⟩
theorem Dk.gr {w : World} {C : Nat} {a : Option Addr} {len cap : Nat} {W0 W : World} (h : Dk w C a len cap W0 W) : W0.grownBy W (some C) :=
  ⟨h.g.os, h.g.tape, h.g.output, h.g.size, fun k hk e => h.g.block k hk (fun e2 => e (by rw [e2]))⟩

end Go.Proofs.Ytfehfocfoegbdaa

namespace Go.Proofs.Ytfehfocfoegbdaa
open Go.RowKit

theorem Blk.apart {w w' : World} {B : Nat} {vs : List Value} {row : Option Nat} (h : Blk w B vs) (k : w.grownBy w' row) (hne : some B ≠ row) : Blk w' B vs := by
  have hb := k.block B h.lt hne
  refine ⟨fun i hi => (World.cell?_of_block (a := ⟨B, i, none⟩) hb).trans (h.c i hi), fun i hi => ?_, Nat.lt_of_lt_of_le h.lt k.size⟩
  have h2 := h.f i hi
  unfold World.frozen? at h2 ⊢
  simp only at h2 ⊢
  rw [hb]; exact h2

structure LoopAt (w wr : World) (boxes : List (Nat × List Value)) (base g k c : Nat) (zs : List Int) : Prop where
  x : ∀ p ∈ boxes, Blk wr p.1 p.2 ∧ p.1 < base
  o : OwnI wr base (.slice (some ⟨g, 0, none⟩) k c) zs
  l : zs.length = k
  b : Below w.heap.size w wr
  s : w.heap.size ≤ base
  t : base ≤ wr.heap.size
theorem LoopAt.below {w wr w' : World} {boxes : List (Nat × List Value)} {base g k c : Nat} {zs : List Int} (h : LoopAt w wr boxes base g k c zs) (j : Below wr.heap.size wr w') : LoopAt w w' boxes base g k c zs :=
  ⟨fun p hp => ⟨(h.x p hp).1.below j, (h.x p hp).2⟩, h.o.below j, h.l, h.b.trans (j.mono (Nat.le_trans h.s h.t)), h.s, Nat.le_trans h.t j.size⟩
theorem LoopAt.step {w wr w' : World} {boxes : List (Nat × List Value)} {base g k c g' c' : Nat} {zs : List Int} {x : Int} (h : LoopAt w wr boxes base g k c zs) (o : OwnI w' base (.slice (some ⟨g', 0, none⟩) (k + 1) c') (zs ++ [x])) (gr : wr.grownBy w' (Value.slice (some ⟨g, 0, none⟩) k c).ownBlock) : LoopAt w w' boxes base g' (k + 1) c' (zs ++ [x]) := by
  have lg := h.o.lies
  refine ⟨fun p hp => ⟨(h.x p hp).1.apart gr ?_, (h.x p hp).2⟩, o, by simp [h.l], h.b.grown gr (Nat.le_trans h.s h.t) (fun q hq => Nat.le_trans h.s (lg q hq).1), h.s, Nat.le_trans h.t gr.size⟩
  intro e
  have := lg p.1 e.symm
  have := (h.x p hp).2
  omega

end Go.Proofs.Ytfehfocfoegbdaa

namespace Go.Proofs.Ytfehfocfoegbdaa
open Go.RowKit

structure KpB (W0 wr : World) (O : Nat) (cs : List Value) (ow : List (Value × List ByteArray)) : Prop where
  blk : Blk wr O cs
  own : ∀ p ∈ ow, OwnE 1 stC wr W0.heap.size 9 p.1 p.2 ∧ p.1.ownBlock ≠ some O
  far : ow.Pairwise (fun p q => ∀ g, p.1.ownBlock = some g → q.1.ownBlock ≠ some g)
  bel : Below W0.heap.size W0 wr
  pl : W0.heap.size ≤ O
theorem KpB.below {W0 wr w' : World} {O : Nat} {cs : List Value} {ow : List (Value × List ByteArray)} (K : KpB W0 wr O cs ow) (b : Below wr.heap.size wr w') : KpB W0 w' O cs ow :=
  ⟨K.blk.below b, fun p hp => ⟨(K.own p hp).1.below b, (K.own p hp).2⟩, K.far, K.bel.trans (b.mono K.bel.size), K.pl⟩
theorem KpB.perm {W0 wr : World} {O : Nat} {cs : List Value} {ow ow' : List (Value × List ByteArray)} (K : KpB W0 wr O cs ow) (h : ow.Perm ow') : KpB W0 wr O cs ow' :=
  ⟨K.blk, fun p hp => K.own p (h.mem_iff.2 hp), (h.pairwise_iff (fun hab g hb ha => hab g ha hb)).1 K.far, K.bel, K.pl⟩
theorem KpB.new {W0 wr : World} {O : Nat} {cs : List Value} {ow : List (Value × List ByteArray)} {v : Value} {x : List ByteArray} (K : KpB W0 wr O cs ow) (o : OwnE 1 stC wr W0.heap.size 9 v x) (hO : v.ownBlock ≠ some O) (hf : ∀ p ∈ ow, ∀ g, v.ownBlock = some g → p.1.ownBlock ≠ some g) : KpB W0 wr O cs ((v, x) :: ow) :=
  ⟨K.blk, fun p hp => by rcases List.mem_cons.1 hp with rfl | h; exact ⟨o, hO⟩; exact K.own p h, List.pairwise_cons.2 ⟨hf, K.far⟩, K.bel, K.pl⟩
theorem KpB.put {W0 wr : World} {O : Nat} {cs : List Value} {ow : List (Value × List ByteArray)} (K : KpB W0 wr O cs ow) (i : Nat) (hi : i < cs.length) (v : Value) : KpB W0 (wr.setCell ⟨O, i, none⟩ v) O (cs.set i v) ow :=
  ⟨K.blk.set i hi v, fun p hp => ⟨(K.own p hp).1.set_other _ (K.own p hp).2, (K.own p hp).2⟩, K.far, K.bel.setCell K.pl _, K.pl⟩
theorem KpB.app {W0 wr w' : World} {O : Nat} {cs : List Value} {ow : List (Value × List ByteArray)} {v : Value} {x : List ByteArray} {z : ByteArray} {g n cp : Nat} (K : KpB W0 wr O cs ((v, x) :: ow)) (o : OwnE 1 stC w' W0.heap.size 9 (.slice (some ⟨g, 0, none⟩) n cp) (x ++ [z])) (gr : wr.grownBy w' v.ownBlock) (hg : v.ownBlock = some g ∨ wr.heap.size < g) : KpB W0 w' O cs ((.slice (some ⟨g, 0, none⟩) n cp, x ++ [z]) :: ow) := by
  have hv := K.own (v, x) (List.mem_cons_self ..)
  have hp := List.pairwise_cons.1 K.far
  have hO := K.blk.lt
  refine ⟨K.blk.apart gr (fun e => hv.2 e.symm), fun p hm => ?_, List.pairwise_cons.2 ⟨fun q hq g' hg' => ?_, hp.2⟩, K.bel.grown gr K.bel.size (fun q hq => (hv.1.lies q hq).1), K.pl⟩
  · rcases List.mem_cons.1 hm with rfl | h
    · refine ⟨o, fun e => ?_⟩
      have e : g = O := Option.some.inj e
      rcases hg with c | c
      · exact hv.2 (by rw [c, e])
      · omega
    · have k := K.own p (List.mem_cons_of_mem _ h)
      exact ⟨k.1.far gr (fun q hq e => hp.1 p h q e.symm hq), k.2⟩
  · have e : g = g' := Option.some.inj hg'
    subst e
    have k := K.own q (List.mem_cons_of_mem _ hq)
    rcases hg with c | c
    · exact hp.1 q hq g c
    · intro e
      have := (k.1.lies g e).2
      omega

end Go.Proofs.Ytfehfocfoegbdaa
