/-
  More of a variable's block and lists of texts beside it: a list that is turned into another one, lists left out; the block told as a panel. No condition.
  A list apart from the three of a panel. No condition.
-/
import Derived.Test.YtfehfocfoegbdaaMDraw
import Derived.Test.YtfehfocfoegbdaaPnTo
import Derived.Test.YtfehfocfoegbdaaMWhole

namespace Go.Proofs.Ytfehfocfoegbdaa
open Go.RowKit

theorem KpB.sub {W0 wr : World} {O : Nat} {cs : List Value} {ow ow' : List (Value × List ByteArray)} (K : KpB W0 wr O cs ow) (h : List.Sublist ow' ow) : KpB W0 wr O cs ow' :=
  ⟨K.blk, fun p hp => K.own p (h.subset hp), K.far.sublist h, K.bel, K.pl⟩
theorem KpB.turn {W0 wr w' : World} {O : Nat} {cs : List Value} {ow : List (Value × List ByteArray)} {v : Value} {x y : List ByteArray} {g n cp : Nat} (K : KpB W0 wr O cs ((v, x) :: ow)) (o : OwnE 1 stC w' W0.heap.size 9 (.slice (some ⟨g, 0, none⟩) n cp) y) (gr : wr.grownBy w' v.ownBlock) (hg : v.ownBlock = some g ∨ wr.heap.size ≤ g) : KpB W0 w' O cs ((.slice (some ⟨g, 0, none⟩) n cp, y) :: ow) := by
  have hv := K.own (v, x) (List.mem_cons_self ..)
  have hp := List.pairwise_cons.1 K.far
  have hO := K.blk.lt
  refine ⟨K.blk.apart gr (fun e => hv.2 e.symm), fun p hm => ?_, List.pairwise_cons.2 ⟨fun q hq g' hg' => ?_, hp.2⟩, K.bel.grown gr K.bel.size (fun q hq => (hv.1.lies q hq).1), K.pl⟩
  · rcases List.mem_cons.1 hm with rfl | h
    · refine ⟨o, fun e => ?_⟩
      have e : g = O := Option.some.inj e
      rcases hg with c | c
      · exact hv.2 (by rw [c, e])
      · omega
    · have k := K.own p (List.mem_cons_of_mem _ h)
      exact ⟨k.1.far gr (fun q hq e => hp.1 p h q e.symm hq), k.2⟩
  · have e : g = g' := Option.some.inj hg'
    subst e
    have k := K.own q (List.mem_cons_of_mem _ hq)
    rcases hg with c | c
    · exact hp.1 q hq g c
    · intro e
      have := (k.1.lies g e).2
      omega
theorem KpB.lit {W0 wr : World} {O : Nat} {cs : List Value} {ow : List (Value × List ByteArray)} {v : Value} {x : List ByteArray} (K : KpB W0 wr O cs ow) (obj : Obj) (o : OwnE 1 stC (wr.alloc obj) W0.heap.size 9 v x) (hv : ∀ g, v.ownBlock = some g → wr.heap.size ≤ g) : KpB W0 (wr.alloc obj) O cs ((v, x) :: ow) := by
  have hO := K.blk.lt
  refine (K.below (bel1 obj)).new o (fun e => by have := hv O e; omega) (fun p hp g hg e => ?_)
  have h1 := hv g hg
  have h2 := ((K.own p hp).1.lies g e).2
  omega
theorem KpB.three {W0 wr : World} {O : Nat} {cs : List Value} {a1 a2 a3 : Option Addr} {l1 c1 l2 c2 l3 c3 : Nat} {z1 z2 z3 : List ByteArray} (K : KpB W0 wr O cs [(.slice a1 l1 c1, z1), (.slice a2 l2 c2, z2), (.slice a3 l3 c3, z3)]) : PnOwn wr W0.heap.size a1 a2 a3 l1 c1 l2 c2 l3 c3 z1 z2 z3 := by
  obtain ⟨h1, h2⟩ := List.pairwise_cons.1 K.far
  obtain ⟨h3, _⟩ := List.pairwise_cons.1 h2
  exact ⟨(K.own _ (List.mem_cons_self ..)).1, (K.own _ (List.mem_cons_of_mem _ (List.mem_cons_self ..))).1, (K.own _ (List.mem_cons_of_mem _ (List.mem_cons_of_mem _ (List.mem_cons_self ..)))).1, h1 _ (List.mem_cons_self ..), h1 _ (List.mem_cons_of_mem _ (List.mem_cons_self ..)), h3 _ (List.mem_cons_self ..)⟩
theorem kp_panel {W0 w : World} {T : TypeId} {a1 a2 a3 : Option Addr} {l1 c1 l2 c2 l3 c3 : Nat} {z1 z2 z3 : List ByteArray} (o : PnOwn w W0.heap.size a1 a2 a3 l1 c1 l2 c2 l3 c3 z1 z2 z3) (b : Below W0.heap.size W0 w) : KpB W0 (w.alloc (Obj.cells #[.slice a1 l1 c1, .slice a2 l2 c2, .slice a3 l3 c3] T)) w.heap.size [.slice a1 l1 c1, .slice a2 l2 c2, .slice a3 l3 c3] [(.slice a1 l1 c1, z1), (.slice a2 l2 c2, z2), (.slice a3 l3 c3, z3)] := by
  have ne : ∀ {v : Value} {L : List ByteArray}, OwnE 1 stC w W0.heap.size 9 v L → v.ownBlock ≠ some w.heap.size := fun {v L} h e => by have := (h.lies _ e).2; omega
  refine ⟨Blk.new _ _, fun p hp => ?_, ?_, b.alloc b.size _, b.size⟩
  · simp only [List.mem_cons, List.not_mem_nil, or_false] at hp
    rcases hp with rfl | rfl | rfl
    · exact ⟨o.o1.below (bel1 _), ne o.o1⟩
    · exact ⟨o.o2.below (bel1 _), ne o.o2⟩
    · exact ⟨o.o3.below (bel1 _), ne o.o3⟩
  · refine List.pairwise_cons.2 ⟨fun q hq => ?_, List.pairwise_cons.2 ⟨fun q hq => ?_, List.pairwise_cons.2 ⟨fun q hq => by simp at hq, List.Pairwise.nil⟩⟩⟩
    · simp only [List.mem_cons, List.not_mem_nil, or_false] at hq
      rcases hq with rfl | rfl
      · exact o.p12
      · exact o.p13
    · simp only [List.mem_cons, List.not_mem_nil, or_false] at hq
      rcases hq with rfl
      exact o.p23

theorem rowTake {α : Type} [Inhabited α] {K : Nat} {cells : α → Nat → Value} {w : World} {a : Option Addr} {len k : Nat} {xs : List α} (h : RowE K cells w a len xs) (hk : k ≤ len) : RowE K cells w a k (xs.take k) := by
  have hl := h.len_eq
  refine ⟨by simp; omega, by have := h.small; omega, fun i hi => ?_⟩
  obtain ⟨b, off, e, hc⟩ := h.at_ i (by omega)
  refine ⟨b, off, e, fun q hq => ?_⟩
  have : elAt (xs.take k) i = elAt xs i := by unfold elAt; rw [List.getElem?_take_of_lt hi]
  rw [this]; exact hc q hq
theorem rowDrop {α : Type} [Inhabited α] {cells : α → Nat → Value} {w : World} {g len k : Nat} {xs : List α} (h : RowE 1 cells w (some ⟨g, 0, none⟩) len xs) (hk : k ≤ len) : RowE 1 cells w (some ⟨g, k, none⟩) (len - k) (xs.drop k) := by
  have hl := h.len_eq
  refine ⟨by simp; omega, by have := h.small; omega, fun i hi => ?_⟩
  obtain ⟨b, off, e, hc⟩ := h.at_ (k + i) (by omega)
  simp only [Option.some.injEq, Addr.mk.injEq, and_true] at e
  obtain ⟨rfl, rfl⟩ := e
  refine ⟨g, k, rfl, fun q hq => ?_⟩
  have : elAt (xs.drop k) i = elAt xs (k + i) := by unfold elAt; rw [List.getElem?_drop]
  have e2 := hc q hq
  rw [this]
  rw [show k + i * 1 + q = 0 + (k + i) * 1 + q by omega]; exact e2
theorem rowNone {α : Type} [Inhabited α] {K : Nat} {cells : α → Nat → Value} (w : World) (a : Option Addr) : RowE K cells w a 0 ([] : List α) := ⟨rfl, by omega, fun i hi => by omega⟩

end Go.Proofs.Ytfehfocfoegbdaa

namespace Go.Proofs.Ytfehfocfoegbdaa
open Go.RowKit

/-- A list apart from three. -/
def PnFar (p1 p2 p3 p4 : Option Addr) : Prop := ∀ a b, p4 = some a → (p1 = some b ∨ p2 = some b ∨ p3 = some b) → a.block ≠ b.block
theorem own_lt {w : World} {base l c : Nat} {b : Addr} {z : List ByteArray} (h : OwnE 1 stC w base 9 (.slice (some b) l c) z) : b.block < w.heap.size := by
  rcases h.form with ⟨e, _⟩ | ⟨g, cap, e, hb, hg, _⟩
  · cases e
  · cases e
    exact hg
theorem pnfar_of {w : World} {base : Nat} {p1 p2 p3 : Option Addr} {l1 q1 l2 q2 l3 q3 : Nat} {z1 z2 z3 : List ByteArray} (h : PnOwn w base p1 p2 p3 l1 q1 l2 q2 l3 q3 z1 z2 z3) {g : Nat} (hg : w.heap.size ≤ g) : PnFar p1 p2 p3 (some ⟨g, 0, none⟩) := by
  intro a b ha hb e
  cases ha
  rcases hb with rfl | rfl | rfl
  · have := own_lt h.o1; simp at e; omega
  · have := own_lt h.o2; simp at e; omega
  · have := own_lt h.o3; simp at e; omega
theorem kp_pnfar {W0 wr : World} {O : Nat} {cs : List Value} {p1 p2 p3 p4 : Option Addr} {l1 q1 l2 q2 l3 q3 l4 q4 : Nat} {z1 z2 z3 z4 : List ByteArray} (K : KpB W0 wr O cs [(.slice p2 l2 q2, z2), (.slice p4 l4 q4, z4), (.slice p3 l3 q3, z3), (.slice p1 l1 q1, z1)]) : PnFar p1 p2 p3 p4 := by
  obtain ⟨h2, h⟩ := List.pairwise_cons.1 K.far
  obtain ⟨h4, _⟩ := List.pairwise_cons.1 h
  intro a b ha hb e
  subst ha
  rcases hb with rfl | rfl | rfl
  · exact h4 (.slice (some b) l1 q1, z1) (by simp) a.block rfl (congrArg some e.symm)
  · exact h2 (.slice (some a) l4 q4, z4) (by simp) b.block rfl (congrArg some e)
  · exact h4 (.slice (some b) l3 q3, z3) (by simp) a.block rfl (congrArg some e.symm)
theorem kp_pnown {W0 wr : World} {O : Nat} {cs : List Value} {p1 p2 p3 p4 : Option Addr} {l1 q1 l2 q2 l3 q3 l4 q4 : Nat} {z1 z2 z3 z4 : List ByteArray} (K : KpB W0 wr O cs [(.slice p2 l2 q2, z2), (.slice p4 l4 q4, z4), (.slice p3 l3 q3, z3), (.slice p1 l1 q1, z1)]) : PnOwn wr W0.heap.size p1 p2 p3 l1 q1 l2 q2 l3 q3 z1 z2 z3 ∧ OwnE 1 stC wr W0.heap.size 9 (.slice p4 l4 q4) z4 := by
  obtain ⟨h2, h⟩ := List.pairwise_cons.1 K.far
  obtain ⟨_, h⟩ := List.pairwise_cons.1 h
  obtain ⟨h3, _⟩ := List.pairwise_cons.1 h
  exact ⟨⟨(K.own (.slice p1 l1 q1, z1) (by simp)).1, (K.own (.slice p2 l2 q2, z2) (by simp)).1, (K.own (.slice p3 l3 q3, z3) (by simp)).1, fun g k1 k2 => h2 (.slice p1 l1 q1, z1) (by simp) g k2 k1, fun g k1 k2 => h3 (.slice p1 l1 q1, z1) (by simp) g k2 k1, fun g k1 k2 => h2 (.slice p3 l3 q3, z3) (by simp) g k1 k2⟩, (K.own (.slice p4 l4 q4, z4) (by simp)).1⟩

end Go.Proofs.Ytfehfocfoegbdaa
