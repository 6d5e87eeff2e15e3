/-
  Mixes and trims as the law of drawn ones asks, in plain numbers; what lies at the head of a round of its first loop. No program here.
-/
import Derived.Test.YtghgbhoncgnbcadCtlPure
import Derived.Test.YtghgbhoncgnbcadLoopAt
import Derived.Test.YtghgbhoncgnbcadOnly
import Derived.Test.YtghgbhoncgnbcadAppS
namespace Go.Proofs.Ytghgbhoncgnbcad
open Go.RowKit

theorem allB_of {zs : List Int} {a b : Int} (h : ∀ i, i < zs.length → a ≤ nth zs i ∧ nth zs i ≤ b) : allB zs a b = true := by
  simp only [allB, decide_eq_true_eq, inB]; exact h
theorem mixed_ok {xs ys : List Int} {p r a b : Int} (hn : xs.length ≤ 8) (hl : ys.length = xs.length) (hx : ∀ i, i < xs.length → -100 ≤ nth xs i ∧ nth xs i ≤ 100) (hy : ∀ i, i < ys.length → -100 ≤ nth ys i ∧ nth ys i ≤ 100) (ha : -255 ≤ a ∧ a ≤ 0) (hb : 0 ≤ b ∧ b ≤ 255) (hp : -500 ≤ p ∧ p ≤ 520) (hr : -500 ≤ r ∧ r ≤ 520) : miB xs ys p r a b 5 = true := by
  have h3 := allB_of hx
  have h4 := allB_of hy
  have h5 : liB a b 5 = true := by simp only [liB, inB, Bool.and_eq_true, decide_eq_true_eq]; omega
  have h6 : inB p (-10000) 10000 = true := by simp only [inB, decide_eq_true_eq]; omega
  have h7 : inB r (-10000) 10000 = true := by simp only [inB, decide_eq_true_eq]; omega
  unfold miB
  rw [h3, h4, h5, h6, h7]
  simp only [hl, decide_true, Bool.and_true, decide_eq_true_eq]
  omega
theorem nth_miTo {xs ys : List Int} {p r a b : Int} {n i : Nat} (h : i < n) : nth (miTo xs ys p r a b n) i = miY xs ys p r a b i := by
  unfold nth miTo
  rw [List.getElem?_map, List.getElem?_range h]
  rfl
theorem hold_ends {x a b : Int} (hab : a ≤ b) (h : ¬ x = holdI x a b) : holdI x a b = a ∨ holdI x a b = b := by
  unfold holdI at *; omega
theorem hold_in {x a b : Int} (hab : a ≤ b) : a ≤ holdI x a b ∧ holdI x a b ≤ b := by
  unfold holdI; omega
theorem tick_on {h k : Int} (h0 : 1 ≤ h) (h1 : h ≤ 256) (k0 : 0 ≤ k) (k1 : k < 9) : trT 0 h k = 0 ∧ trK 0 h k = k + 1 ∧ trB 0 h k = true := by
  have e : trB 0 h k = true := by simp only [trB, inB, Bool.and_eq_true, decide_eq_true_eq]; omega
  refine ⟨?_, ?_, e⟩
  · unfold trT; rw [e]; simp; omega
  · unfold trK; rw [e]; simp; omega
theorem tick_last {h : Int} (h0 : 1 ≤ h) (h1 : h ≤ 256) : trT 0 h 9 = 1 ∧ trK 0 h 9 = 0 ∧ trB 0 h 9 = true := by
  have e : trB 0 h 9 = true := by simp only [trB, inB, Bool.and_eq_true, decide_eq_true_eq]; omega
  refine ⟨?_, ?_, e⟩
  · unfold trT; rw [e]; simp; omega
  · unfold trK; rw [e]; simp

/-- A mixer that grows: its two lists, each in memory of its own, and the block that holds them. -/
structure MxAt (w wr : World) (P L c1 c2 : Nat) (A1 A2 : Option Addr) (xs ys : List Int) : Prop where
  p : Blk wr P [.slice A1 L c1, .slice A2 L c2]
  o1 : OwnI wr (P + 1) (.slice A1 L c1) xs
  o2 : OwnI wr (P + 1) (.slice A2 L c2) ys
  s : ∀ g, (Value.slice A1 L c1).ownBlock = some g → (Value.slice A2 L c2).ownBlock ≠ some g
  lx : xs.length = L
  ly : ys.length = L
  bx : ∀ i, i < L → -100 ≤ nth xs i ∧ nth xs i ≤ 100
  by' : ∀ i, i < L → -100 ≤ nth ys i ∧ nth ys i ≤ 100
  b : Below w.heap.size w wr
  z : w.heap.size ≤ P
/-- .. between its two lists. -/
structure MxMid (w wr : World) (P L c1 c2 : Nat) (A1 A2 : Option Addr) (xs ys : List Int) : Prop where
  p : Blk wr P [.slice A1 (L + 1) c1, .slice A2 L c2]
  o1 : OwnI wr (P + 1) (.slice A1 (L + 1) c1) xs
  o2 : OwnI wr (P + 1) (.slice A2 L c2) ys
  s : ∀ g, (Value.slice A1 (L + 1) c1).ownBlock = some g → (Value.slice A2 L c2).ownBlock ≠ some g
  lx : xs.length = L + 1
  ly : ys.length = L
  bx : ∀ i, i < L + 1 → -100 ≤ nth xs i ∧ nth xs i ≤ 100
  by' : ∀ i, i < L → -100 ≤ nth ys i ∧ nth ys i ≤ 100
  b : Below w.heap.size w wr
  z : w.heap.size ≤ P
theorem nth_push {zs : List Int} {x : Int} {L : Nat} (hl : zs.length = L) (h : ∀ i, i < L → -100 ≤ nth zs i ∧ nth zs i ≤ 100) (hx : -100 ≤ x ∧ x ≤ 100) : ∀ i, i < L + 1 → -100 ≤ nth (zs ++ [x]) i ∧ nth (zs ++ [x]) i ≤ 100 := by
  intro i hi
  obtain ⟨h1, h2⟩ := nth_app zs x
  by_cases c : i < L
  · rw [h1 i (by omega)]; exact h i c
  · have e : i = zs.length := by omega
    rw [e, h2]; exact hx
theorem MxAt.first {w wr w1 w9 : World} {P L c1 c2 g c : Nat} {A1 A2 : Option Addr} {xs ys : List Int} {x : Int} (h : MxAt w wr P L c1 c2 A1 A2 xs ys) (b1 : Below wr.heap.size wr w1) (hx : -100 ≤ x ∧ x ≤ 100)
    (o : OwnI w9 (P + 1) (.slice (some ⟨g, 0, none⟩) (L + 1) c) (xs ++ [x])) (gr : w1.grownBy w9 (Value.slice A1 L c1).ownBlock) (ha : (Value.slice A1 L c1).ownBlock = some g ∨ w1.heap.size < g) :
    MxMid w (w9.setCell ⟨P, 0, none⟩ (.slice (some ⟨g, 0, none⟩) (L + 1) c)) P L c c2 (some ⟨g, 0, none⟩) A2 (xs ++ [x]) ys := by
  have hP := h.p.lt
  have hz := b1.size
  have l1 := h.o1.lies
  have l2 := h.o2.lies
  have pw : Blk w9 P [.slice A1 L c1, .slice A2 L c2] := (h.p.below b1).apart gr (by intro e; have := l1 P e.symm; omega)
  have ow := o.lies g rfl
  have zs := h.z
  refine ⟨pw.set 0 (by simp) _, o.set_other _ ?_, ((h.o2.below b1).far gr ?_).set_other _ ?_, ?_, by simp [h.lx], h.ly, nth_push h.lx h.bx hx, h.by', ?_, h.z⟩
  · simp only [Value.ownBlock, ne_eq, Option.some.injEq]; omega
  · intro q hq e; exact h.s q e.symm hq
  · intro e; have := l2 P e; omega
  · intro q hq hq2
    simp only [Value.ownBlock, Option.some.injEq] at hq
    subst hq
    rcases ha with ha | ha
    · exact h.s _ ha hq2
    · have := l2 _ hq2; omega
  · exact Below.setCell (Below.grown (h.b.trans (b1.mono h.b.size)) gr (Nat.le_trans h.b.size hz) (fun q hq => by have := l1 q hq; omega)) (by simpa using h.z) _
theorem MxMid.second {w wr w1 w9 : World} {P L c1 c2 g c : Nat} {A1 A2 : Option Addr} {xs ys : List Int} {x : Int} (h : MxMid w wr P L c1 c2 A1 A2 xs ys) (b1 : Below wr.heap.size wr w1) (hx : -100 ≤ x ∧ x ≤ 100)
    (o : OwnI w9 (P + 1) (.slice (some ⟨g, 0, none⟩) (L + 1) c) (ys ++ [x])) (gr : w1.grownBy w9 (Value.slice A2 L c2).ownBlock) (ha : (Value.slice A2 L c2).ownBlock = some g ∨ w1.heap.size < g) :
    MxAt w (w9.setCell ⟨P, 1, none⟩ (.slice (some ⟨g, 0, none⟩) (L + 1) c)) P (L + 1) c1 c A1 (some ⟨g, 0, none⟩) xs (ys ++ [x]) := by
  have hP := h.p.lt
  have hz := b1.size
  have l1 := h.o1.lies
  have l2 := h.o2.lies
  have pw : Blk w9 P [.slice A1 (L + 1) c1, .slice A2 L c2] := (h.p.below b1).apart gr (by intro e; have := l2 P e.symm; omega)
  have ow := o.lies g rfl
  have zs := h.z
  refine ⟨pw.set 1 (by simp) _, ((h.o1.below b1).far gr ?_).set_other _ ?_, o.set_other _ ?_, ?_, h.lx, by simp [h.ly], h.bx, nth_push h.ly h.by' hx, ?_, h.z⟩
  · intro q hq e; exact h.s q hq e.symm
  · intro e; have := l1 P e; omega
  · simp only [Value.ownBlock, ne_eq, Option.some.injEq]; omega
  · intro q hq hq2
    simp only [Value.ownBlock, Option.some.injEq] at hq2
    subst hq2
    rcases ha with ha | ha
    · exact h.s _ hq ha
    · have := l1 _ hq; omega
  · exact Below.setCell (Below.grown (h.b.trans (b1.mono h.b.size)) gr (Nat.le_trans h.b.size hz) (fun q hq => by have := l2 q hq; omega)) (by simpa using h.z) _

end Go.Proofs.Ytghgbhoncgnbcad
