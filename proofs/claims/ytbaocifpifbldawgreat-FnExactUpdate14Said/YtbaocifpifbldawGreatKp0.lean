/-
  Two, three, four variables in blocks of their own, one laid behind the other. No condition.
  The law's marks in a list of whole numbers that a call has made: every number gets the next number, and nothing else is written; the marks are found again. A list that is made empty, and one number more behind a list.
  One whole number more behind a list that a call has made, as a law for the walk. At lists of at most 1000000.
  A loop that puts one whole number after the other behind a list of its own, with variables in blocks of their own ahead of it: what stays. No condition.
  A variable's block and lists of texts of one's own, all apart: what stays when one list grows, or a cell of the variable is set. No condition.
-/
import Derived.Test.YtbaocifpifbldawGreatBlk
import Derived.Test.YtbaocifpifbldawGreatPan0
import Derived.Deep.AppendLies

namespace Go.Proofs.YtbaocifpifbldawGreat
open Go.RowKit

theorem Blk.next {w : World} {B : Nat} (vs : List Value) (T : TypeId) (h : w.heap.size = B) : Blk (w.alloc (Obj.cells vs.toArray T)) B vs := by
  subst h; exact Blk.new vs T
theorem blkAt2_0 {w : World} {v1 v2 : List Value} {T1 T2 : TypeId} : Blk ((w.alloc (Obj.cells v1.toArray T1)).alloc (Obj.cells v2.toArray T2)) w.heap.size v1 := (Blk.new v1 T1).alloc _
theorem blkAt2_1 {w : World} {v1 v2 : List Value} {T1 T2 : TypeId} : Blk ((w.alloc (Obj.cells v1.toArray T1)).alloc (Obj.cells v2.toArray T2)) (w.heap.size + 1) v2 := Blk.next v2 T2 (by simp)
theorem blkAt3_0 {w : World} {v1 v2 v3 : List Value} {T1 T2 T3 : TypeId} : Blk (((w.alloc (Obj.cells v1.toArray T1)).alloc (Obj.cells v2.toArray T2)).alloc (Obj.cells v3.toArray T3)) w.heap.size v1 := blkAt2_0.alloc _
theorem blkAt3_1 {w : World} {v1 v2 v3 : List Value} {T1 T2 T3 : TypeId} : Blk (((w.alloc (Obj.cells v1.toArray T1)).alloc (Obj.cells v2.toArray T2)).alloc (Obj.cells v3.toArray T3)) (w.heap.size + 1) v2 := blkAt2_1.alloc _
theorem blkAt3_2 {w : World} {v1 v2 v3 : List Value} {T1 T2 T3 : TypeId} : Blk (((w.alloc (Obj.cells v1.toArray T1)).alloc (Obj.cells v2.toArray T2)).alloc (Obj.cells v3.toArray T3)) (w.heap.size + 1 + 1) v3 := Blk.next v3 T3 (by simp)

end Go.Proofs.YtbaocifpifbldawGreat

namespace Go.Proofs.YtbaocifpifbldawGreat
open Go.RowKit

theorem info_int1 : (Tryz.prog.info? 3).map (fun i => (i.zero, i.size, i.bytes)) = some (some (.int .i64 0), 1, 8) := by kernel_rfl
theorem ownI_none {w w1 : World} (h : w.heap.size ≤ w1.heap.size) : OwnI (w1.alloc (Obj.cells #[] 3)) w.heap.size (.slice (some ⟨w1.heap.size, 0, none⟩) 0 0) [] := by
  refine ⟨⟨[], ⟨rfl, .inr ⟨_, _, #[], rfl, h, ?_, Nat.le_refl _, by simp [maxLen], rfl, rfl⟩⟩, fun j hj => by simp at hj⟩, fun i => by simp [nth]⟩
  show (w1.heap.push _)[w1.heap.size]? = _
  simp
theorem nth_app (Z : List Int) (a : Int) : (∀ i, i < Z.length → nth (Z ++ [a]) i = nth Z i) ∧ nth (Z ++ [a]) Z.length = a := by
  refine ⟨fun i hi => ?_, ?_⟩
  · unfold nth; rw [List.getElem?_append_left hi]
  · simp [nth]
theorem ownI_app {w : World} {base : Nat} {v : Value} {Z : List Int} {vs : List Value} {a : Int} (h : w.ownsRow base 3 1 v (Z.length + 1) (vs ++ [.int .i64 a])) (hl : vs.length = Z.length * 1)
    (hx : ∀ j, j < Z.length → vs[j]? = some (.int .i64 (nth Z j))) (hf : ∀ i : Nat, -9223372036854775808 ≤ nth Z i ∧ nth Z i ≤ 9223372036854775807) (ha : -9223372036854775808 ≤ a ∧ a ≤ 9223372036854775807) : OwnI w base v (Z ++ [a]) := by
  obtain ⟨h1, h2⟩ := nth_app Z a
  refine ⟨⟨vs ++ [.int .i64 a], by simpa using h, fun j hj => ?_⟩, fun i => ?_⟩
  · simp only [List.length_append, List.length_cons, List.length_nil] at hj
    by_cases e : j < Z.length
    · rw [h1 j e, List.getElem?_append_left (by omega)]
      exact hx j e
    · obtain rfl : j = Z.length := by omega
      rw [h2, List.getElem?_append_right (by omega), hl]
      simp
  · by_cases e : i < Z.length
    · rw [h1 i e]; exact hf i
    · by_cases e' : i = Z.length
      · subst e'; rw [h2]; exact ha
      · have : nth (Z ++ [a]) i = 0 := by unfold nth; rw [List.getElem?_eq_none (by simp; omega)]; rfl
        rw [this]; omega

theorem markI_at (zs : List Int) (k : Int) : ∀ n, n ≤ zs.length → ∀ i, i < n → nth (markI zs k n) i = k + i := by
  intro n
  induction n with
  | zero => intro _ i hi; omega
  | succ n ih =>
    intro hn i hi
    have hl : n < (markI zs k n).length := by rw [markI_len]; omega
    show nth ((markI zs k n).set n (k + n)) i = _
    rw [nth_set _ _ _ _ hl]
    by_cases e : i = n
    · subst e; simp
    · rw [if_neg e]; exact ih (by omega) i (by omega)

set_option maxHeartbeats 1000000 in
theorem markIntS_own (base : Nat) (a : Option Addr) (len c : Nat) (zs : List Int) (k : Int) (w : World) (ho : OwnI w base (.slice a len c) zs) (hl : zs.length = len) (h1 : len ≤ 1048576) (hk0 : 0 ≤ k) (hk1 : k ≤ 1000000000) :
    Calls Tryz.prog 40 #[.slice a len c, .int .i64 k] w fun e w' => e = .returned (.int .i64 (k + len)) ∧ OwnI w' base (.slice a len c) (markI zs k len) ∧ w.grownBy w' (Value.slice a len c).ownBlock := by
  subst hl
  go_enter Tryz.func40, Tryz.ntmps40
  go_wp2
  go_loopw [1, 5] (fun kk i wr => ∃ j : Nat, j ≤ zs.length ∧ i = .int .i64 j ∧ kk = .int .i64 (k + j) ∧ OwnI wr base (.slice a zs.length c) (markI zs k j) ∧ w.grownBy wr (Value.slice a zs.length c).ownBlock) (fun _ i _ => zs.length - (intOf i).toNat)
  case atStart => exact ⟨0, Nat.zero_le _, rfl, by simp, ho, grown_refl _ _⟩
  case round =>
    obtain ⟨j, hj, rfl, rfl, how, hgr⟩ := hrel
    have hml := markI_len zs k j
    by_cases hlt : j < zs.length
    · rcases how.form with ⟨_, h0⟩ | ⟨g, c', hv, hg1, hg2, hc1, _⟩
      · rw [h0] at hml; simp at hml; omega
      simp only [Value.slice.injEq] at hv
      obtain ⟨rfl, hx, rfl⟩ := hv
      clear hx hc1
      have o1 := how
      rw [← hml] at o1
      obtain ⟨n0, z0⟩ := o1.here j (by omega)
      have o2 := o1.set j (by omega) (k + j) (by omega)
      rw [hml] at o2
      have O3 : Hid (OwnI (wr.setCell ⟨g, j, none⟩ (.int .i64 (k + j))) base (.slice (some ⟨g, 0, none⟩) zs.length c) (markI zs k (j + 1))) := hide o2
      have G3 : Hid (w.grownBy (wr.setCell ⟨g, j, none⟩ (.int .i64 (k + j))) (Value.slice (some ⟨g, 0, none⟩) zs.length c).ownBlock) := hide (grown_set hgr _ _)
      have hi1 : (j : Int) < (zs.length : Int) := by omega
      clear o1 o2 how hgr hml
      go_wp2
      go_roundw
      case rel => exact ⟨j + 1, by omega, by go_num, by go_num, unhide O3, unhide G3⟩
      case measure => simp [intOf]; omega
    · have hkk : j = zs.length := by omega
      subst hkk
      have O := hide how
      have G := hide hgr
      clear how hgr hml
      go_wp2
      go_ret
      exact ⟨rfl, unhide O, unhide G⟩

end Go.Proofs.YtbaocifpifbldawGreat

namespace Go.Proofs.YtbaocifpifbldawGreat
open Go.RowKit

theorem grownBy_alloc_then {w w' : World} {o : Obj} {row : Option Nat} (h : (w.alloc o).grownBy w' row) : w.grownBy w' row :=
  ⟨h.os, h.tape, h.output, Nat.le_trans (by simp) h.size, fun k hk hne => (h.block k (Nat.lt_of_lt_of_le hk (by simp)) hne).trans (Below.heap_alloc _ _ _ hk)⟩
theorem wpList_app_int {ops : Array Oper} {rest : List Oper} {o : Oper} {a : Act} {Q : Exit → Act → World → Prop} (hgd : o.guard = none) (s xo : Operand)
    (ho : o.op = .call { callee := .builtin .append, args := #[s, xo], argTypes := #[43, 43] }) {wr : World} {base n : Nat} {v : Value} {zs : List Int} (x : Int) (hO : OwnI wr base v zs) (hn : zs.length = n) (hs : a.eval s = v)
    {H : Nat} (hH : wr.heap.size = H) (hx : a.eval xo = .slice (some ⟨H, 0, none⟩) 1 1) (hb : base ≤ wr.heap.size) (hsm : n ≤ 1000000) (hf : -9223372036854775808 ≤ x ∧ x ≤ 9223372036854775807)
    (h : ∀ g cap w', OwnI w' base (.slice (some ⟨g, 0, none⟩) (n + 1) cap) (zs ++ [x]) → wr.grownBy w' v.ownBlock → wpList Tryz.prog ops Q rest (a.put o.dst (.slice (some ⟨g, 0, none⟩) (n + 1) cap)) w') :
    wpList Tryz.prog ops Q (o :: rest) a (wr.alloc (Obj.cells #[.int .i64 x] 3)) := by
  subst hn
  subst hH
  obtain ⟨vs, hown, hvx⟩ := hO.own
  have hbA := bel1 (w := wr) (Obj.cells #[.int .i64 x] 3)
  have hownA := ownsRow_below hown hbA
  have hnews := World.news_of_block (heap_alloc_new wr (Obj.cells #[.int .i64 x] 3))
  obtain ⟨i0, hii, hz0, hz1, hz2⟩ := info_parts info_int1
  refine wpList_append_lies _ hgd s xo 43 ho base 3 i0 (.int .i64 0) 1 8 Tryz.underlying43 hii hz0 hz1 hz2 rfl (by decide) v zs.length vs hs hownA ⟨wr.heap.size, 0, none⟩ 1 1 [.int .i64 x] hx rfl hnews (by simp [Value.oneCell']) (by decide) (by unfold maxLen; omega) (by omega) (by simp; omega) _ rfl ?_
  intro g cap w' h1 h2 _ _
  exact h g cap w' (ownI_app h1 hown.1 hvx hO.fit hf) (grownBy_alloc_then h2)

end Go.Proofs.YtbaocifpifbldawGreat

namespace Go.Proofs.YtbaocifpifbldawGreat
open Go.RowKit

theorem Blk.apart {w w' : World} {B : Nat} {vs : List Value} {row : Option Nat} (h : Blk w B vs) (k : w.grownBy w' row) (hne : some B ≠ row) : Blk w' B vs := by
  have hb := k.block B h.lt hne
  refine ⟨fun i hi => (World.cell?_of_block (a := ⟨B, i, none⟩) hb).trans (h.c i hi), fun i hi => ?_, Nat.lt_of_lt_of_le h.lt k.size⟩
  have h2 := h.f i hi
  unfold World.frozen? at h2 ⊢
  simp only at h2 ⊢
  rw [hb]; exact h2

structure LoopAt (w wr : World) (boxes : List (Nat × List Value)) (base g k c : Nat) (zs : List Int) : Prop where
  x : ∀ p ∈ boxes, Blk wr p.1 p.2 ∧ p.1 < base
  o : OwnI wr base (.slice (some ⟨g, 0, none⟩) k c) zs
  l : zs.length = k
  b : Below w.heap.size w wr
  s : w.heap.size ≤ base
  t : base ≤ wr.heap.size
theorem LoopAt.below {w wr w' : World} {boxes : List (Nat × List Value)} {base g k c : Nat} {zs : List Int} (h : LoopAt w wr boxes base g k c zs) (j : Below wr.heap.size wr w') : LoopAt w w' boxes base g k c zs :=
  ⟨fun p hp => ⟨(h.x p hp).1.below j, (h.x p hp).2⟩, h.o.below j, h.l, h.b.trans (j.mono (Nat.le_trans h.s h.t)), h.s, Nat.le_trans h.t j.size⟩
theorem LoopAt.step {w wr w' : World} {boxes : List (Nat × List Value)} {base g k c g' c' : Nat} {zs : List Int} {x : Int} (h : LoopAt w wr boxes base g k c zs) (o : OwnI w' base (.slice (some ⟨g', 0, none⟩) (k + 1) c') (zs ++ [x])) (gr : wr.grownBy w' (Value.slice (some ⟨g, 0, none⟩) k c).ownBlock) : LoopAt w w' boxes base g' (k + 1) c' (zs ++ [x]) := by
  have lg := h.o.lies
  refine ⟨fun p hp => ⟨(h.x p hp).1.apart gr ?_, (h.x p hp).2⟩, o, by simp [h.l], h.b.grown gr (Nat.le_trans h.s h.t) (fun q hq => Nat.le_trans h.s (lg q hq).1), h.s, Nat.le_trans h.t gr.size⟩
  intro e
  have := lg p.1 e.symm
  have := (h.x p hp).2
  omega

end Go.Proofs.YtbaocifpifbldawGreat

namespace Go.Proofs.YtbaocifpifbldawGreat
open Go.RowKit

structure Kp (W0 wr : World) (O : Nat) (cs : List Value) (ow : List (Value × List ByteArray)) : Prop where
  blk : Blk wr O cs
  own : ∀ p ∈ ow, OwnE 1 stC wr W0.heap.size 9 p.1 p.2 ∧ p.1.ownBlock ≠ some O
  far : ow.Pairwise (fun p q => ∀ g, p.1.ownBlock = some g → q.1.ownBlock ≠ some g)
  bel : Below W0.heap.size W0 wr
  pl : W0.heap.size ≤ O
theorem Kp.below {W0 wr w' : World} {O : Nat} {cs : List Value} {ow : List (Value × List ByteArray)} (K : Kp W0 wr O cs ow) (b : Below wr.heap.size wr w') : Kp W0 w' O cs ow :=
  ⟨K.blk.below b, fun p hp => ⟨(K.own p hp).1.below b, (K.own p hp).2⟩, K.far, K.bel.trans (b.mono K.bel.size), K.pl⟩
theorem Kp.perm {W0 wr : World} {O : Nat} {cs : List Value} {ow ow' : List (Value × List ByteArray)} (K : Kp W0 wr O cs ow) (h : ow.Perm ow') : Kp W0 wr O cs ow' :=
  ⟨K.blk, fun p hp => K.own p (h.mem_iff.2 hp), (h.pairwise_iff (fun hab g hb ha => hab g ha hb)).1 K.far, K.bel, K.pl⟩
theorem Kp.new {W0 wr : World} {O : Nat} {cs : List Value} {ow : List (Value × List ByteArray)} {v : Value} {x : List ByteArray} (K : Kp W0 wr O cs ow) (o : OwnE 1 stC wr W0.heap.size 9 v x) (hO : v.ownBlock ≠ some O) (hf : ∀ p ∈ ow, ∀ g, v.ownBlock = some g → p.1.ownBlock ≠ some g) : Kp W0 wr O cs ((v, x) :: ow) :=
  ⟨K.blk, fun p hp => by rcases List.mem_cons.1 hp with rfl | h; exact ⟨o, hO⟩; exact K.own p h, List.pairwise_cons.2 ⟨hf, K.far⟩, K.bel, K.pl⟩
theorem Kp.put {W0 wr : World} {O : Nat} {cs : List Value} {ow : List (Value × List ByteArray)} (K : Kp W0 wr O cs ow) (i : Nat) (hi : i < cs.length) (v : Value) : Kp W0 (wr.setCell ⟨O, i, none⟩ v) O (cs.set i v) ow :=
  ⟨K.blk.set i hi v, fun p hp => ⟨(K.own p hp).1.set_other _ (K.own p hp).2, (K.own p hp).2⟩, K.far, K.bel.setCell K.pl _, K.pl⟩
theorem Kp.app {W0 wr w' : World} {O : Nat} {cs : List Value} {ow : List (Value × List ByteArray)} {v : Value} {x : List ByteArray} {z : ByteArray} {g n cp : Nat} (K : Kp W0 wr O cs ((v, x) :: ow)) (o : OwnE 1 stC w' W0.heap.size 9 (.slice (some ⟨g, 0, none⟩) n cp) (x ++ [z])) (gr : wr.grownBy w' v.ownBlock) (hg : v.ownBlock = some g ∨ wr.heap.size < g) : Kp W0 w' O cs ((.slice (some ⟨g, 0, none⟩) n cp, x ++ [z]) :: ow) := by
  have hv := K.own (v, x) (List.mem_cons_self ..)
  have hp := List.pairwise_cons.1 K.far
  have hO := K.blk.lt
  refine ⟨K.blk.apart gr (fun e => hv.2 e.symm), fun p hm => ?_, List.pairwise_cons.2 ⟨fun q hq g' hg' => ?_, hp.2⟩, K.bel.grown gr K.bel.size (fun q hq => (hv.1.lies q hq).1), K.pl⟩
  · rcases List.mem_cons.1 hm with rfl | h
    · refine ⟨o, fun e => ?_⟩
      have e : g = O := Option.some.inj e
      rcases hg with c | c
      · exact hv.2 (by rw [c, e])
      · omega
    · have k := K.own p (List.mem_cons_of_mem _ h)
      exact ⟨k.1.far gr (fun q hq e => hp.1 p h q e.symm hq), k.2⟩
  · have e : g = g' := Option.some.inj hg'
    subst e
    have k := K.own q (List.mem_cons_of_mem _ hq)
    rcases hg with c | c
    · exact hp.1 q hq g c
    · intro e
      have := (k.1.lies g e).2
      omega

end Go.Proofs.YtbaocifpifbldawGreat
