/-
  More of a variable's block and lists of texts beside it: a list that is turned into another one, lists left out; the block told as a panel. No condition.
  A list apart from the three of a panel. No condition.
  A list of texts by its value, in memory of its own, apart from three others. No condition.
  The law's copy of rules: new memory for the list and for each list of phases. At lengths of at most 1048576.
  A list of rules that a call has made, the list and each list of phases in memory of its own; the law's copy. At lengths of at most 1048576.
-/
import Derived.Test.YtbaocifpifbldawGreatKp0
import Derived.Test.YtbaocifpifbldawGreatPan0
import Derived.Test.YtbaocifpifbldawGreatPan1
import Derived.Test.YtbaocifpifbldawGreatWrRow

namespace Go.Proofs.YtbaocifpifbldawGreat
open Go.RowKit

theorem Kp.sub {W0 wr : World} {O : Nat} {cs : List Value} {ow ow' : List (Value × List ByteArray)} (K : Kp W0 wr O cs ow) (h : List.Sublist ow' ow) : Kp W0 wr O cs ow' :=
  ⟨K.blk, fun p hp => K.own p (h.subset hp), K.far.sublist h, K.bel, K.pl⟩
theorem Kp.turn {W0 wr w' : World} {O : Nat} {cs : List Value} {ow : List (Value × List ByteArray)} {v : Value} {x y : List ByteArray} {g n cp : Nat} (K : Kp W0 wr O cs ((v, x) :: ow)) (o : OwnE 1 stC w' W0.heap.size 9 (.slice (some ⟨g, 0, none⟩) n cp) y) (gr : wr.grownBy w' v.ownBlock) (hg : v.ownBlock = some g ∨ wr.heap.size ≤ g) : Kp W0 w' O cs ((.slice (some ⟨g, 0, none⟩) n cp, y) :: ow) := by
  have hv := K.own (v, x) (List.mem_cons_self ..)
  have hp := List.pairwise_cons.1 K.far
  have hO := K.blk.lt
  refine ⟨K.blk.apart gr (fun e => hv.2 e.symm), fun p hm => ?_, List.pairwise_cons.2 ⟨fun q hq g' hg' => ?_, hp.2⟩, K.bel.grown gr K.bel.size (fun q hq => (hv.1.lies q hq).1), K.pl⟩
  · rcases List.mem_cons.1 hm with rfl | h
    · refine ⟨o, fun e => ?_⟩
      have e : g = O := Option.some.inj e
      rcases hg with c | c
      · exact hv.2 (by rw [c, e])
      · omega
    · have k := K.own p (List.mem_cons_of_mem _ h)
      exact ⟨k.1.far gr (fun q hq e => hp.1 p h q e.symm hq), k.2⟩
  · have e : g = g' := Option.some.inj hg'
    subst e
    have k := K.own q (List.mem_cons_of_mem _ hq)
    rcases hg with c | c
    · exact hp.1 q hq g c
    · intro e
      have := (k.1.lies g e).2
      omega
theorem Kp.lit {W0 wr : World} {O : Nat} {cs : List Value} {ow : List (Value × List ByteArray)} {v : Value} {x : List ByteArray} (K : Kp W0 wr O cs ow) (obj : Obj) (o : OwnE 1 stC (wr.alloc obj) W0.heap.size 9 v x) (hv : ∀ g, v.ownBlock = some g → wr.heap.size ≤ g) : Kp W0 (wr.alloc obj) O cs ((v, x) :: ow) := by
  have hO := K.blk.lt
  refine (K.below (bel1 obj)).new o (fun e => by have := hv O e; omega) (fun p hp g hg e => ?_)
  have h1 := hv g hg
  have h2 := ((K.own p hp).1.lies g e).2
  omega
theorem Kp.three {W0 wr : World} {O : Nat} {cs : List Value} {a1 a2 a3 : Option Addr} {l1 c1 l2 c2 l3 c3 : Nat} {z1 z2 z3 : List ByteArray} (K : Kp W0 wr O cs [(.slice a1 l1 c1, z1), (.slice a2 l2 c2, z2), (.slice a3 l3 c3, z3)]) : PnOwn wr W0.heap.size a1 a2 a3 l1 c1 l2 c2 l3 c3 z1 z2 z3 := by
  obtain ⟨h1, h2⟩ := List.pairwise_cons.1 K.far
  obtain ⟨h3, _⟩ := List.pairwise_cons.1 h2
  exact ⟨(K.own _ (List.mem_cons_self ..)).1, (K.own _ (List.mem_cons_of_mem _ (List.mem_cons_self ..))).1, (K.own _ (List.mem_cons_of_mem _ (List.mem_cons_of_mem _ (List.mem_cons_self ..)))).1, h1 _ (List.mem_cons_self ..), h1 _ (List.mem_cons_of_mem _ (List.mem_cons_self ..)), h3 _ (List.mem_cons_self ..)⟩
theorem kp_panel {W0 w : World} {T : TypeId} {a1 a2 a3 : Option Addr} {l1 c1 l2 c2 l3 c3 : Nat} {z1 z2 z3 : List ByteArray} (o : PnOwn w W0.heap.size a1 a2 a3 l1 c1 l2 c2 l3 c3 z1 z2 z3) (b : Below W0.heap.size W0 w) : Kp W0 (w.alloc (Obj.cells #[.slice a1 l1 c1, .slice a2 l2 c2, .slice a3 l3 c3] T)) w.heap.size [.slice a1 l1 c1, .slice a2 l2 c2, .slice a3 l3 c3] [(.slice a1 l1 c1, z1), (.slice a2 l2 c2, z2), (.slice a3 l3 c3, z3)] := by
  have ne : ∀ {v : Value} {L : List ByteArray}, OwnE 1 stC w W0.heap.size 9 v L → v.ownBlock ≠ some w.heap.size := fun {v L} h e => by have := (h.lies _ e).2; omega
  refine ⟨Blk.new _ _, fun p hp => ?_, ?_, b.alloc b.size _, b.size⟩
  · simp only [List.mem_cons, List.not_mem_nil, or_false] at hp
    rcases hp with rfl | rfl | rfl
    · exact ⟨o.o1.below (bel1 _), ne o.o1⟩
    · exact ⟨o.o2.below (bel1 _), ne o.o2⟩
    · exact ⟨o.o3.below (bel1 _), ne o.o3⟩
  · refine List.pairwise_cons.2 ⟨fun q hq => ?_, List.pairwise_cons.2 ⟨fun q hq => ?_, List.pairwise_cons.2 ⟨fun q hq => by simp at hq, List.Pairwise.nil⟩⟩⟩
    · simp only [List.mem_cons, List.not_mem_nil, or_false] at hq
      rcases hq with rfl | rfl
      · exact o.p12
      · exact o.p13
    · simp only [List.mem_cons, List.not_mem_nil, or_false] at hq
      rcases hq with rfl
      exact o.p23

theorem rowTake {α : Type} [Inhabited α] {K : Nat} {cells : α → Nat → Value} {w : World} {a : Option Addr} {len k : Nat} {xs : List α} (h : RowE K cells w a len xs) (hk : k ≤ len) : RowE K cells w a k (xs.take k) := by
  have hl := h.len_eq
  refine ⟨by simp; omega, by have := h.small; omega, fun i hi => ?_⟩
  obtain ⟨b, off, e, hc⟩ := h.at_ i (by omega)
  refine ⟨b, off, e, fun q hq => ?_⟩
  have : elAt (xs.take k) i = elAt xs i := by unfold elAt; rw [List.getElem?_take_of_lt hi]
  rw [this]; exact hc q hq
theorem rowDrop {α : Type} [Inhabited α] {cells : α → Nat → Value} {w : World} {g len k : Nat} {xs : List α} (h : RowE 1 cells w (some ⟨g, 0, none⟩) len xs) (hk : k ≤ len) : RowE 1 cells w (some ⟨g, k, none⟩) (len - k) (xs.drop k) := by
  have hl := h.len_eq
  refine ⟨by simp; omega, by have := h.small; omega, fun i hi => ?_⟩
  obtain ⟨b, off, e, hc⟩ := h.at_ (k + i) (by omega)
  simp only [Option.some.injEq, Addr.mk.injEq, and_true] at e
  obtain ⟨rfl, rfl⟩ := e
  refine ⟨g, k, rfl, fun q hq => ?_⟩
  have : elAt (xs.drop k) i = elAt xs (k + i) := by unfold elAt; rw [List.getElem?_drop]
  have e2 := hc q hq
  rw [this]
  rw [show k + i * 1 + q = 0 + (k + i) * 1 + q by omega]; exact e2
theorem rowNone {α : Type} [Inhabited α] {K : Nat} {cells : α → Nat → Value} (w : World) (a : Option Addr) : RowE K cells w a 0 ([] : List α) := ⟨rfl, by omega, fun i hi => by omega⟩

end Go.Proofs.YtbaocifpifbldawGreat

namespace Go.Proofs.YtbaocifpifbldawGreat
open Go.RowKit

/-- A list apart from three. -/
def PnFar (p1 p2 p3 p4 : Option Addr) : Prop := ∀ a b, p4 = some a → (p1 = some b ∨ p2 = some b ∨ p3 = some b) → a.block ≠ b.block
theorem own_lt {w : World} {base l c : Nat} {b : Addr} {z : List ByteArray} (h : OwnE 1 stC w base 9 (.slice (some b) l c) z) : b.block < w.heap.size := by
  rcases h.form with ⟨e, _⟩ | ⟨g, cap, e, hb, hg, _⟩
  · cases e
  · cases e
    exact hg
theorem pnfar_of {w : World} {base : Nat} {p1 p2 p3 : Option Addr} {l1 q1 l2 q2 l3 q3 : Nat} {z1 z2 z3 : List ByteArray} (h : PnOwn w base p1 p2 p3 l1 q1 l2 q2 l3 q3 z1 z2 z3) {g : Nat} (hg : w.heap.size ≤ g) : PnFar p1 p2 p3 (some ⟨g, 0, none⟩) := by
  intro a b ha hb e
  cases ha
  rcases hb with rfl | rfl | rfl
  · have := own_lt h.o1; simp at e; omega
  · have := own_lt h.o2; simp at e; omega
  · have := own_lt h.o3; simp at e; omega
theorem kp_pnfar {W0 wr : World} {O : Nat} {cs : List Value} {p1 p2 p3 p4 : Option Addr} {l1 q1 l2 q2 l3 q3 l4 q4 : Nat} {z1 z2 z3 z4 : List ByteArray} (K : Kp W0 wr O cs [(.slice p2 l2 q2, z2), (.slice p4 l4 q4, z4), (.slice p3 l3 q3, z3), (.slice p1 l1 q1, z1)]) : PnFar p1 p2 p3 p4 := by
  obtain ⟨h2, h⟩ := List.pairwise_cons.1 K.far
  obtain ⟨h4, _⟩ := List.pairwise_cons.1 h
  intro a b ha hb e
  subst ha
  rcases hb with rfl | rfl | rfl
  · exact h4 (.slice (some b) l1 q1, z1) (by simp) a.block rfl (congrArg some e.symm)
  · exact h2 (.slice (some a) l4 q4, z4) (by simp) b.block rfl (congrArg some e)
  · exact h4 (.slice (some b) l3 q3, z3) (by simp) a.block rfl (congrArg some e.symm)
theorem kp_pnown {W0 wr : World} {O : Nat} {cs : List Value} {p1 p2 p3 p4 : Option Addr} {l1 q1 l2 q2 l3 q3 l4 q4 : Nat} {z1 z2 z3 z4 : List ByteArray} (K : Kp W0 wr O cs [(.slice p2 l2 q2, z2), (.slice p4 l4 q4, z4), (.slice p3 l3 q3, z3), (.slice p1 l1 q1, z1)]) : PnOwn wr W0.heap.size p1 p2 p3 l1 q1 l2 q2 l3 q3 z1 z2 z3 ∧ OwnE 1 stC wr W0.heap.size 9 (.slice p4 l4 q4) z4 := by
  obtain ⟨h2, h⟩ := List.pairwise_cons.1 K.far
  obtain ⟨_, h⟩ := List.pairwise_cons.1 h
  obtain ⟨h3, _⟩ := List.pairwise_cons.1 h
  exact ⟨⟨(K.own (.slice p1 l1 q1, z1) (by simp)).1, (K.own (.slice p2 l2 q2, z2) (by simp)).1, (K.own (.slice p3 l3 q3, z3) (by simp)).1, fun g k1 k2 => h2 (.slice p1 l1 q1, z1) (by simp) g k2 k1, fun g k1 k2 => h3 (.slice p1 l1 q1, z1) (by simp) g k2 k1, fun g k1 k2 => h2 (.slice p3 l3 q3, z3) (by simp) g k1 k2⟩, (K.own (.slice p4 l4 q4, z4) (by simp)).1⟩

end Go.Proofs.YtbaocifpifbldawGreat

namespace Go.Proofs.YtbaocifpifbldawGreat
open Go.RowKit

def TxV (w : World) (base : Nat) (x1 x2 x3 x4 : Value) (L4 : List ByteArray) : Prop :=
  (∃ p q, x4 = .slice p L4.length q) ∧ OwnE 1 stC w base 9 x4 L4 ∧ ∀ g, x4.ownBlock = some g → x1.ownBlock ≠ some g ∧ x2.ownBlock ≠ some g ∧ x3.ownBlock ≠ some g
theorem TxV.below {w w' : World} {base : Nat} {x1 x2 x3 x4 : Value} {L4 : List ByteArray} (h : TxV w base x1 x2 x3 x4 L4) (k : Below w.heap.size w w') : TxV w' base x1 x2 x3 x4 L4 := ⟨h.1, h.2.1.below k, h.2.2⟩
theorem TxV.mono {w : World} {base base' : Nat} {x1 x2 x3 x4 : Value} {L4 : List ByteArray} (h : TxV w base x1 x2 x3 x4 L4) (k : base' ≤ base) : TxV w base' x1 x2 x3 x4 L4 := ⟨h.1, h.2.1.mono k, h.2.2⟩
theorem TxV.lies {w : World} {base : Nat} {x1 x2 x3 x4 : Value} {L4 : List ByteArray} (h : TxV w base x1 x2 x3 x4 L4) : ∀ g, x4.ownBlock = some g → base ≤ g ∧ g < w.heap.size := h.2.1.lies
theorem TxV.set {w : World} {base : Nat} {x1 x2 x3 x4 : Value} {L4 : List ByteArray} (h : TxV w base x1 x2 x3 x4 L4) {S o : Nat} (u : Value) (f : x4.ownBlock ≠ some S) : TxV (w.setCell ⟨S, o, none⟩ u) base x1 x2 x3 x4 L4 := ⟨h.1, h.2.1.set_other u f, h.2.2⟩
theorem txv_of {w : World} {base : Nat} {p1 p2 p3 p4 : Option Addr} {l1 q1 l2 q2 l3 q3 q4 : Nat} {L4 : List ByteArray} (h : OwnE 1 stC w base 9 (.slice p4 L4.length q4) L4) (hf : PnFar p1 p2 p3 p4) : TxV w base (.slice p1 l1 q1) (.slice p2 l2 q2) (.slice p3 l3 q3) (.slice p4 L4.length q4) L4 := by
  refine ⟨⟨_, _, rfl⟩, h, fun g hg => ?_⟩
  have key : ∀ (p : Option Addr) (l q : Nat), (p1 = p ∨ p2 = p ∨ p3 = p) → (Value.slice p l q).ownBlock ≠ some g := by
    intro p l q hp e
    cases p4 with
    | none => cases hg
    | some a =>
      cases p with
      | none => cases e
      | some b =>
        have e1 : a.block = g := Option.some.inj hg
        have e2 : b.block = g := Option.some.inj e
        exact hf a b rfl hp (e1.trans e2.symm)
  exact ⟨key p1 l1 q1 (.inl rfl), key p2 l2 q2 (.inr (.inl rfl)), key p3 l3 q3 (.inr (.inr rfl))⟩

end Go.Proofs.YtbaocifpifbldawGreat

namespace Go.Proofs.YtbaocifpifbldawGreat
open Go.RowKit

set_option maxRecDepth 20000 in
set_option maxHeartbeats 1000000 in
theorem toWarnRule_any (qa : Option Addr) (ql qc : Nat) (p : Wr) (w : World) (hr : Row w qa ql p.q) (hl : ql ≤ 1048576) :
    Calls Tryz.prog 27 #[.agg #[.string p.n, .int .i64 p.r, .slice qa ql qc, .bool p.l, .string p.d]] w fun e w' => ∃ g, e = .returned (.agg #[.string p.n, .int .i64 p.r, .slice (some ⟨g, 0, none⟩) ql ql, .bool p.l, .string p.d]) ∧ OwnI w' w.heap.size (.slice (some ⟨g, 0, none⟩) ql ql) p.q ∧ Below w.heap.size w w' := by
  go_enter Tryz.func27, Tryz.ntmps27
  go_wp2_with fail
  obtain ⟨W0, hW0⟩ : ∃ W, W = ((w.alloc (Obj.cells #[.string p.n, .int .i64 p.r, .slice qa ql qc, .bool p.l, .string p.d] 45)).alloc (Obj.cells #[.string ⟨#[]⟩, .int .i64 0, .slice none 0 0, .bool false, .string ⟨#[]⟩] 51)).alloc (Obj.cells #[.string p.n, .int .i64 p.r, .slice none 0 0, .bool false, .string ⟨#[]⟩] 51) := ⟨_, rfl⟩
  have b0 : Below w.heap.size w W0 := by rw [hW0]; exact ((bel1 _).alloc (by simp) _).alloc (by simp; omega) _
  have KA : Blk W0 w.heap.size [.string p.n, .int .i64 p.r, .slice qa ql qc, .bool p.l, .string p.d] := by rw [hW0]; exact blkAt3_0
  have KR : Blk W0 (w.heap.size + 1) [.string ⟨#[]⟩, .int .i64 0, .slice none 0 0, .bool false, .string ⟨#[]⟩] := by rw [hW0]; exact blkAt3_1
  have KS : Blk W0 (w.heap.size + 1 + 1) [.string p.n, .int .i64 p.r, .slice none 0 0, .bool false, .string ⟨#[]⟩] := by rw [hW0]; exact blkAt3_2
  rw [← hW0]
  clear hW0
  refine (toIntS_own _ _ _ p.q _ (hr.below b0) hl).mono ?_
  rintro e w1 ⟨rfl, o1, b1⟩
  have O1 := hide (o1.mono b0.size)
  have HB := hide (b0.trans (b1.mono b0.size))
  have K1A := hide (KA.below b1)
  have K1R := hide (KR.below b1)
  have K1S := hide (KS.below b1)
  have gw := KS.lt
  have a3 := (unhide K1A).c 3 (by simp)
  have a4 := (unhide K1A).c 4 (by simp)
  have s2 := (unhide K1S).c 2 (by simp)
  have s3 := (unhide K1S).c 3 (by simp)
  have s4 := (unhide K1S).c 4 (by simp)
  have t2 := (unhide K1S).f 2 (by simp)
  have t3 := (unhide K1S).f 3 (by simp)
  have t4 := (unhide K1S).f 4 (by simp)
  simp only [List.getElem_cons_zero, List.getElem_cons_succ] at a3 a4 s2 s3 s4
  clear b0 KA KR KS o1 b1 hr
  go_wp2_with (first
    | ((with_reducible show wpList _ _ _ (⟨_, .load 51 _, _, _, _, none⟩ :: _) _ _); refine at_loadAgg (vs := [.string p.n, .int .i64 p.r, .slice (some ⟨W0.heap.size, 0, none⟩) ql ql, .bool p.l, .string p.d]) Tryz.isAgg51 Tryz.sizeOf51 rfl (by simpa using (((unhide K1S).set 2 (by simp) (.slice (some ⟨W0.heap.size, 0, none⟩) ql ql)).set 3 (by simp) (.bool p.l)).set 4 (by simp) (.string p.d)) ?_)
    | ((with_reducible show wpList _ _ _ (⟨none, .store 51 _ _, _, _, _, none⟩ :: _) _ _); refine at_storeAgg (us := [.string ⟨#[]⟩, .int .i64 0, .slice none 0 0, .bool false, .string ⟨#[]⟩]) (vs := [.string p.n, .int .i64 p.r, .slice (some ⟨W0.heap.size, 0, none⟩) ql ql, .bool p.l, .string p.d]) Tryz.sizeOf51 rfl rfl ((((unhide K1R).other (p := ⟨w.heap.size + 1 + 1, 2, none⟩) (by simp) _).other (p := ⟨w.heap.size + 1 + 1, 3, none⟩) (by simp) _).other (p := ⟨w.heap.size + 1 + 1, 4, none⟩) (by simp) _) rfl (by simp [Value.oneCell']) ?_; intro w9 kk9 gg9))
  have B2 : Below w.heap.size w (((w1.setCell ⟨w.heap.size + 1 + 1, 2, none⟩ (.slice (some ⟨W0.heap.size, 0, none⟩) ql ql)).setCell ⟨w.heap.size + 1 + 1, 3, none⟩ (.bool p.l)).setCell ⟨w.heap.size + 1 + 1, 4, none⟩ (.string p.d)) := (((unhide HB).setCell (by simp; omega) _).setCell (by simp; omega) _).setCell (by simp; omega) _
  refine bodyPost_ret (results_cell (vs := [.string p.n, .int .i64 p.r, .slice (some ⟨W0.heap.size, 0, none⟩) ql ql, .bool p.l, .string p.d]) rfl Tryz.isAgg51 Tryz.sizeOf51 rfl kk9) rfl ⟨_, rfl, ?_, ?_⟩
  · have l1 := gw
    exact (((((unhide O1).set_other _ (by simp [Value.ownBlock]; omega)).set_other _ (by simp [Value.ownBlock]; omega)).set_other _ (by simp [Value.ownBlock]; omega))).far gg9 (fun g hg e => by simp [Value.ownBlock] at hg; cases e; omega)
  · exact B2.grown gg9 B2.size (fun q hq => by cases hq; omega)

end Go.Proofs.YtbaocifpifbldawGreat

namespace Go.Proofs.YtbaocifpifbldawGreat
open Go.RowKit

/-- A rule, and the block of its phases. -/
structure Wg where
  p : Wr
  g : Nat
instance : Inhabited Wg := ⟨⟨default, 0⟩⟩
def wgC (x : Wg) : Nat → Value
  | 0 => .string x.p.n
  | 1 => .int .i64 x.p.r
  | 2 => .slice (some ⟨x.g, 0, none⟩) x.p.q.length x.p.q.length
  | 3 => .bool x.p.l
  | _ => .string x.p.d
theorem infoWr : (Tryz.prog.info? 51).map (fun i => (i.zero, i.size, i.bytes)) = some (some (.agg #[.string ⟨#[]⟩, .int .i64 0, .slice none 0 0, .bool false, .string ⟨#[]⟩]), 5, 72) := by kernel_rfl
structure OwnW (w : World) (B hi len : Nat) (rs : List Wr) : Prop where
  len_eq : rs.length = len
  small : len ≤ 1048576
  lt : B < w.heap.size
  own : ∃ xs : List Wg, xs.length = len ∧ (∀ i, i < len → (elAt xs i).p = elAt rs i) ∧ OwnE 5 wgC w B 51 (.slice (some ⟨B, 0, none⟩) len len) xs ∧ (∀ i, i < len → OwnI w (B + 1) (.slice (some ⟨(elAt xs i).g, 0, none⟩) (elAt xs i).p.q.length (elAt xs i).p.q.length) (elAt xs i).p.q) ∧ (∀ i j, i < j → j < len → (elAt xs i).g < (elAt xs j).g) ∧ ∀ i, i < len → (elAt xs i).g < hi
theorem OwnW.below {w w' : World} {B hi len : Nat} {rs : List Wr} (h : OwnW w B hi len rs) (k : Below w.heap.size w w') : OwnW w' B hi len rs := by
  obtain ⟨xs, h1, h2, h3, h4, h5⟩ := h.own
  exact ⟨h.len_eq, h.small, Nat.lt_of_lt_of_le h.lt k.size, xs, h1, h2, h3.below k, fun i hi => (h4 i hi).below k, h5⟩
theorem OwnW.row {w : World} {B hi len : Nat} {rs : List Wr} (h : OwnW w B hi len rs) (hf : ∀ i, i < len → wrFit (elAt rs i)) : RowW w (some ⟨B, 0, none⟩) len rs := by
  obtain ⟨xs, h1, h2, h3, h4, h5⟩ := h.own
  refine ⟨h.len_eq, by have := h.small; omega, fun i hi => ⟨B, 0, some ⟨(elAt xs i).g, 0, none⟩, (elAt xs i).p.q.length, (elAt xs i).p.q.length, rfl, ?_, ?_, Nat.le_refl _, hf i hi⟩⟩
  · have c := fun q hq => (h3.here h1 i hi q hq).1
    rw [← h2 i hi, Nat.zero_add]
    exact ⟨c 0 (by omega), c 1 (by omega), c 2 (by omega), c 3 (by omega), c 4 (by omega)⟩
  · rw [← h2 i hi]; exact (h4 i hi).row
theorem OwnW.only {w w' : World} {B hi len lo2 hi2 : Nat} {rs : List Wr} (h : OwnW w B hi len rs) (k : Only lo2 hi2 w w') (hs : hi2 ≤ B ∨ (B < lo2 ∧ hi ≤ lo2)) : OwnW w' B hi len rs := by
  obtain ⟨xs, h1, h2, h3, h4, h5, h6⟩ := h.own
  refine ⟨h.len_eq, h.small, Nat.lt_of_lt_of_le h.lt k.size, xs, h1, h2, h3.only k (fun g hg => ?_), fun i hl => (h4 i hl).only k (fun g hg => ?_), h5, h6⟩
  · have e : B = g := by simpa [Value.ownBlock] using hg
    rcases hs with hs | hs
    · right; omega
    · left; omega
  · have e : (elAt xs i).g = g := by simpa [Value.ownBlock] using hg
    have a := ((h4 i hl).lies (elAt xs i).g rfl).1
    have b := h6 i hl
    rcases hs with hs | hs
    · right; omega
    · left; omega

/-- After k rounds of the copying. -/
structure CopiedW (w wr : World) (B : Nat) (rs : List Wr) (k : Nat) : Prop where
  own : ∃ (xs : List Value) (G : Nat → Nat), wr.ownsRow B 51 5 (.slice (some ⟨B, 0, none⟩) rs.length rs.length) rs.length xs ∧ (∀ j, j < k → (∀ q, q < 5 → xs[j * 5 + q]? = some (wgC ⟨elAt rs j, G j⟩ q)) ∧ OwnI wr (B + 1) (.slice (some ⟨G j, 0, none⟩) (elAt rs j).q.length (elAt rs j).q.length) (elAt rs j).q) ∧ ∀ i j, i < j → j < k → G i < G j
  bel : Below w.heap.size w wr
  here : B < wr.heap.size
  old : w.heap.size ≤ B
theorem CopiedW.at_ {w wr : World} {B : Nat} {rs : List Wr} {k : Nat} (h : CopiedW w wr B rs k) (i : Nat) (hi : i < rs.length * 5) : (∃ v, wr.cell? ⟨B, i, none⟩ = some v) ∧ wr.frozen? ⟨B, i, none⟩ = false := by
  obtain ⟨xs, G, ho, _⟩ := h.own
  refine ⟨?_, ho.frozenAt i⟩
  rw [ho.cellAt i hi]
  have := ho.1
  exact ⟨xs[i]'(by omega), List.getElem?_eq_getElem (by omega)⟩
theorem CopiedW.call {w wr w' : World} {B : Nat} {rs : List Wr} {k : Nat} (h : CopiedW w wr B rs k) (b : Below wr.heap.size wr w') : CopiedW w w' B rs k := by
  obtain ⟨xs, G, ho, hx, hg⟩ := h.own
  exact ⟨⟨xs, G, ownsRow_below ho b, fun j hj => ⟨(hx j hj).1, (hx j hj).2.below b⟩, hg⟩, h.bel.trans (b.mono h.bel.size), Nat.lt_of_lt_of_le h.here b.size, h.old⟩
theorem CopiedW.step {w wr w2 : World} {B : Nat} {rs : List Wr} {k g : Nat} (h : CopiedW w wr B rs k) (b : Below wr.heap.size wr w2) (hk : k < rs.length) (ho2 : OwnI w2 wr.heap.size (.slice (some ⟨g, 0, none⟩) (elAt rs k).q.length (elAt rs k).q.length) (elAt rs k).q) :
    CopiedW w (((((w2.setCell ⟨B, k * 5, none⟩ (.string (elAt rs k).n)).setCell ⟨B, k * 5 + 1, none⟩ (.int .i64 (elAt rs k).r)).setCell ⟨B, k * 5 + 2, none⟩ (.slice (some ⟨g, 0, none⟩) (elAt rs k).q.length (elAt rs k).q.length)).setCell ⟨B, k * 5 + 3, none⟩ (.bool (elAt rs k).l)).setCell ⟨B, k * 5 + 4, none⟩ (.string (elAt rs k).d)) B rs (k + 1) := by
  have hB := h.here
  have h2 := h.call b
  have lg := (ho2.lies g rfl).1
  obtain ⟨xs, G, ho, hx, hg⟩ := h.own
  have hoB := ownsRow_below ho b
  have hl := ho.1
  have o0 := (hoB.stored (k * 5) (.string (elAt rs k).n)).1
  have o1 := (o0.stored (k * 5 + 1) (.int .i64 (elAt rs k).r)).1
  have o2 := (o1.stored (k * 5 + 2) (.slice (some ⟨g, 0, none⟩) (elAt rs k).q.length (elAt rs k).q.length)).1
  have o3 := (o2.stored (k * 5 + 3) (.bool (elAt rs k).l)).1
  have o4 := (o3.stored (k * 5 + 4) (.string (elAt rs k).d)).1
  refine ⟨⟨_, fun j => if j = k then g else G j, o4, fun j hj => ⟨fun q hq => ?_, ?_⟩, fun i j hij hj => ?_⟩, ((((h2.bel.setCell h.old _).setCell h.old _).setCell h.old _).setCell h.old _).setCell h.old _, by have := h2.here; simpa [World.setCell] using this, h.old⟩
  · by_cases e : j = k
    · subst e
      simp only [if_true]
      have hq' : q = 0 ∨ q = 1 ∨ q = 2 ∨ q = 3 ∨ q = 4 := by omega
      rcases hq' with rfl | rfl | rfl | rfl | rfl
      · rw [List.getElem?_set_ne (by omega), List.getElem?_set_ne (by omega), List.getElem?_set_ne (by omega), List.getElem?_set_ne (by omega)]; exact List.getElem?_set_self (by first | omega | (simp; omega))
      · rw [List.getElem?_set_ne (by omega), List.getElem?_set_ne (by omega), List.getElem?_set_ne (by omega)]; exact List.getElem?_set_self (by first | omega | (simp; omega))
      · rw [List.getElem?_set_ne (by omega), List.getElem?_set_ne (by omega)]; exact List.getElem?_set_self (by first | omega | (simp; omega))
      · rw [List.getElem?_set_ne (by omega)]; exact List.getElem?_set_self (by first | omega | (simp; omega))
      · exact List.getElem?_set_self (by first | omega | (simp; omega))
    · simp only [e, if_false]
      rw [List.getElem?_set_ne (by omega), List.getElem?_set_ne (by omega), List.getElem?_set_ne (by omega), List.getElem?_set_ne (by omega), List.getElem?_set_ne (by omega)]
      exact (hx j (by omega)).1 q hq
  · by_cases e : j = k
    · subst e
      simp only [if_true]
      exact (((((ho2.mono (by omega)).set_other _ (by simp [Value.ownBlock]; omega)).set_other _ (by simp [Value.ownBlock]; omega)).set_other _ (by simp [Value.ownBlock]; omega)).set_other _ (by simp [Value.ownBlock]; omega)).set_other _ (by simp [Value.ownBlock]; omega)
    · simp only [e, if_false]
      have hj' : j < k := by omega
      have l := (hx j hj').2.lies (G j) rfl
      exact ((((((hx j hj').2.below b).set_other _ (by simp [Value.ownBlock]; omega)).set_other _ (by simp [Value.ownBlock]; omega)).set_other _ (by simp [Value.ownBlock]; omega)).set_other _ (by simp [Value.ownBlock]; omega)).set_other _ (by simp [Value.ownBlock]; omega)
  · have hi : ¬ i = k := by omega
    simp only [hi, if_false]
    by_cases e : j = k
    · simp only [e, if_true]
      have := ((hx i (by omega)).2.lies (G i) rfl).2
      omega
    · simp only [e, if_false]
      exact hg i j hij (by omega)
theorem CopiedW.done {w wr : World} {B : Nat} {rs : List Wr} (h : CopiedW w wr B rs rs.length) (hs : rs.length ≤ 1048576) : OwnW wr B wr.heap.size rs.length rs := by
  obtain ⟨xs, G, ho, hx, hg⟩ := h.own
  have el : ∀ i, i < rs.length → elAt ((List.range rs.length).map fun i => (⟨elAt rs i, G i⟩ : Wg)) i = ⟨elAt rs i, G i⟩ := fun i hi => by simp [elAt, hi]
  refine ⟨rfl, hs, h.here, (List.range rs.length).map fun i => ⟨elAt rs i, G i⟩, by simp, fun i hi => by rw [el i hi], ⟨⟨xs, by simpa using ho, fun j hj q hq => ?_⟩⟩, fun i hi => ?_, fun i j hij hj => ?_, fun i hi => ?_⟩
  · have hj' : j < rs.length := by simpa using hj
    rw [el j hj']
    exact (hx j hj').1 q hq
  · rw [el i hi]; exact (hx i hi).2
  · rw [el i (by omega), el j hj]; exact hg i j hij hj
  · rw [el i hi]; exact ((hx i hi).2.lies _ rfl).2

set_option maxRecDepth 20000 in
set_option maxHeartbeats 1000000 in
theorem toWarnRuleS_own (ad : Option Addr) (len cap : Nat) (rs : List Wr) (w : World) (hr : RowW w ad len rs) (hlen : len ≤ 1048576) (hall : ∀ i, i < len → (elAt rs i).q.length ≤ 1048576) :
    Calls Tryz.prog 8 #[.slice ad len cap] w fun e w' => e = .returned (.slice (some ⟨w.heap.size, 0, none⟩) len len) ∧ OwnW w' w.heap.size w'.heap.size len rs ∧ Below w.heap.size w w' := by
  have hz := hr.len_eq
  have HO := hide hr.open_
  have HA := hide hall
  clear hr hall
  subst hz
  obtain ⟨i0, hi, hz0, hz1, hz2⟩ := info_parts infoWr
  go_enter Tryz.func8, Tryz.ntmps8
  go_wp2_with (at_make; refine wpList_make_full _ rfl (.tmp 6) (.tmp 6) 32 rfl w.heap.size 51 i0 (.agg #[.string ⟨#[]⟩, .int .i64 0, .slice none 0 0, .bool false, .string ⟨#[]⟩]) 5 Tryz.underlying32 hi hz0 hz1 .i64 .i64 _ _ rs.length rfl rfl rfl rfl (by rw [hz2]; omega) (by unfold maxLen; omega) (Nat.le_refl _) ?_; intro w1 hown hgrow)
  have hB : w.heap.size < w1.heap.size := (hown.lt w.heap.size rfl).2
  have HC0 : CopiedW w w1 w.heap.size rs 0 := ⟨⟨_, fun _ => 0, hown, fun j hj => by omega, fun i j _ hj => by omega⟩, (Below.refl _ _).grown hgrow (Nat.le_refl _) (fun k hk => by cases hk), hB, Nat.le_refl _⟩
  clear hown hgrow hi hz0 hz1 hz2 hB
  go_loopw [4] (fun i wr => ∃ k : Nat, k ≤ rs.length ∧ i = .int .i64 k ∧ Hid (CopiedW w wr w.heap.size rs k)) (fun i _ => rs.length - (intOf i).toNat)
  case atStart => exact ⟨0, Nat.zero_le _, rfl, hide HC0⟩
  case round =>
    clear HC0
    obtain ⟨k, hk, rfl, HCP⟩ := hrel
    by_cases hlt : k < rs.length
    · rcases (unhide HO) with ⟨h0, _⟩ | ⟨bb, off, rfl, _, hc⟩
      · simp [h0] at hlt
      obtain ⟨qa, ql, qc, hat, hrow, _, _⟩ := hc k hlt
      have hat := hat.below (unhide HCP).bel
      have m0 := hat.c0
      have m1 := hat.c1
      have m2 := hat.c2
      have m3 := hat.c3
      have m4 := hat.c4
      have hli := hrow.len_eq
      have hl20 : ql ≤ 1048576 := by rw [← hli]; exact (unhide HA) k hlt
      have HR := hide (hrow.below (unhide HCP).bel)
      have HLI := hide hli
      have k0 : (0 : Int) ≤ (k : Int) := by omega
      have hi1 : (k : Int) < (rs.length : Int) := by omega
      clear hc hat hrow hli
      go_wp2_with fail
      refine (toWarnRule_any _ _ _ (elAt rs k) _ (unhide HR) hl20).mono ?_
      rintro e w2 ⟨g, rfl, o2, hb2⟩
      have hc2 := (unhide HCP).call hb2
      obtain ⟨⟨v0, hs0⟩, hf0⟩ := hc2.at_ (k * 5) (by omega)
      obtain ⟨⟨v1, hs1⟩, hf1⟩ := hc2.at_ (k * 5 + 1) (by omega)
      obtain ⟨⟨v2, hs2⟩, hf2⟩ := hc2.at_ (k * 5 + 2) (by omega)
      obtain ⟨⟨v3, hs3⟩, hf3⟩ := hc2.at_ (k * 5 + 3) (by omega)
      obtain ⟨⟨v4, hs4⟩, hf4⟩ := hc2.at_ (k * 5 + 4) (by omega)
      rw [← unhide HLI] at o2
      have HS := hide ((unhide HCP).step hb2 hlt o2)
      rw [unhide HLI] at HS
      clear hb2 hc2 o2 m0 m1 m2 m3 m4
      go_wp2
      go_roundw
      case rel => exact ⟨k + 1, by omega, by go_num, HS⟩
      case measure => simp [intOf]; omega
    · have hkk : k = rs.length := by omega
      subst hkk
      have HR := hide ((unhide HCP).done hlen)
      have HB := hide (unhide HCP).bel
      go_wp2
      go_ret
      exact ⟨rfl, unhide HR, unhide HB⟩

end Go.Proofs.YtbaocifpifbldawGreat
