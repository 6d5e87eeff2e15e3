/-
  The law's copy of rules: new memory for the list and for each list of phases. At lengths of at most 1048576.
  A list of rules that a call has made, the list and each list of phases in memory of its own; the law's copy. At lengths of at most 1048576.
-/
import Derived.Test.YtfehfocfoegbdaaWrRow
import Derived.Test.YtfehfocfoegbdaaOwnI
import Derived.Test.YtfehfocfoegbdaaMMarkI
import Derived.Test.YtfehfocfoegbdaaMStrTo
import Derived.Test.YtfehfocfoegbdaaMBlks
import Derived.Test.YtfehfocfoegbdaaMWhole

namespace Go.Proofs.Ytfehfocfoegbdaa
open Go.RowKit


end Go.Proofs.Ytfehfocfoegbdaa

namespace Go.Proofs.Ytfehfocfoegbdaa
open Go.RowKit

/-- A rule, and the block of its phases. -/
structure Wg where
  p : Wr
  g : Nat
instance : Inhabited Wg := ⟨⟨default, 0⟩⟩
def wgC (x : Wg) : Nat → Value
  | 0 => .string x.p.n
  | 1 => .int .i64 x.p.r
  | 2 => .slice (some ⟨x.g, 0, none⟩) x.p.q.length x.p.q.length
  | 3 => .bool x.p.l
  | _ => .string x.p.d
theorem infoWr : (Try.prog.info? 48).map (fun i => (i.zero, i.size, i.bytes)) = some (some (.agg #[.string ⟨#[]⟩, .int .i64 0, .slice none 0 0, .bool false, .string ⟨#[]⟩]), 5, 72) := by kernel_rfl
structure OwnW (w : World) (B hi len : Nat) (rs : List Wr) : Prop where
  len_eq : rs.length = len
  small : len ≤ 1048576
  lt : B < w.heap.size
  own : ∃ xs : List Wg, xs.length = len ∧ (∀ i, i < len → (elAt xs i).p = elAt rs i) ∧ OwnE 5 wgC w B 48 (.slice (some ⟨B, 0, none⟩) len len) xs ∧ (∀ i, i < len → OwnI w (B + 1) (.slice (some ⟨(elAt xs i).g, 0, none⟩) (elAt xs i).p.q.length (elAt xs i).p.q.length) (elAt xs i).p.q) ∧ (∀ i j, i < j → j < len → (elAt xs i).g < (elAt xs j).g) ∧ ∀ i, i < len → (elAt xs i).g < hi
theorem OwnW.below {w w' : World} {B hi len : Nat} {rs : List Wr} (h : OwnW w B hi len rs) (k : Below w.heap.size w w') : OwnW w' B hi len rs := by
  obtain ⟨xs, h1, h2, h3, h4, h5⟩ := h.own
  exact ⟨h.len_eq, h.small, Nat.lt_of_lt_of_le h.lt k.size, xs, h1, h2, h3.below k, fun i hi => (h4 i hi).below k, h5⟩
theorem OwnW.row {w : World} {B hi len : Nat} {rs : List Wr} (h : OwnW w B hi len rs) (hf : ∀ i, i < len → wrFit (elAt rs i)) : RowW w (some ⟨B, 0, none⟩) len rs := by
  obtain ⟨xs, h1, h2, h3, h4, h5⟩ := h.own
  refine ⟨h.len_eq, by have := h.small; omega, fun i hi => ⟨B, 0, some ⟨(elAt xs i).g, 0, none⟩, (elAt xs i).p.q.length, (elAt xs i).p.q.length, rfl, ?_, ?_, Nat.le_refl _, hf i hi⟩⟩
  · have c := fun q hq => (h3.here h1 i hi q hq).1
    rw [← h2 i hi, Nat.zero_add]
    exact ⟨c 0 (by omega), c 1 (by omega), c 2 (by omega), c 3 (by omega), c 4 (by omega)⟩
  · rw [← h2 i hi]; exact (h4 i hi).row
theorem OwnW.only {w w' : World} {B hi len lo2 hi2 : Nat} {rs : List Wr} (h : OwnW w B hi len rs) (k : Only lo2 hi2 w w') (hs : hi2 ≤ B ∨ (B < lo2 ∧ hi ≤ lo2)) : OwnW w' B hi len rs := by
  obtain ⟨xs, h1, h2, h3, h4, h5, h6⟩ := h.own
  refine ⟨h.len_eq, h.small, Nat.lt_of_lt_of_le h.lt k.size, xs, h1, h2, h3.only k (fun g hg => ?_), fun i hl => (h4 i hl).only k (fun g hg => ?_), h5, h6⟩
  · have e : B = g := by simpa [Value.ownBlock] using hg
    rcases hs with hs | hs
    · right; omega
    · left; omega
  · have e : (elAt xs i).g = g := by simpa [Value.ownBlock] using hg
    have a := ((h4 i hl).lies (elAt xs i).g rfl).1
    have b := h6 i hl
    rcases hs with hs | hs
    · right; omega
    · left; omega

/-- After k rounds of the copying. -/
structure CopiedW (w wr : World) (B : Nat) (rs : List Wr) (k : Nat) : Prop where
  own : ∃ (xs : List Value) (G : Nat → Nat), wr.ownsRow B 48 5 (.slice (some ⟨B, 0, none⟩) rs.length rs.length) rs.length xs ∧ (∀ j, j < k → (∀ q, q < 5 → xs[j * 5 + q]? = some (wgC ⟨elAt rs j, G j⟩ q)) ∧ OwnI wr (B + 1) (.slice (some ⟨G j, 0, none⟩) (elAt rs j).q.length (elAt rs j).q.length) (elAt rs j).q) ∧ ∀ i j, i < j → j < k → G i < G j
  bel : Below w.heap.size w wr
  here : B < wr.heap.size
  old : w.heap.size ≤ B
theorem CopiedW.at_ {w wr : World} {B : Nat} {rs : List Wr} {k : Nat} (h : CopiedW w wr B rs k) (i : Nat) (hi : i < rs.length * 5) : (∃ v, wr.cell? ⟨B, i, none⟩ = some v) ∧ wr.frozen? ⟨B, i, none⟩ = false := by
  obtain ⟨xs, G, ho, _⟩ := h.own
  refine ⟨?_, ho.frozenAt i⟩
  rw [ho.cellAt i hi]
  have := ho.1
  exact ⟨xs[i]'(by omega), List.getElem?_eq_getElem (by omega)⟩
theorem CopiedW.call {w wr w' : World} {B : Nat} {rs : List Wr} {k : Nat} (h : CopiedW w wr B rs k) (b : Below wr.heap.size wr w') : CopiedW w w' B rs k := by
  obtain ⟨xs, G, ho, hx, hg⟩ := h.own
  exact ⟨⟨xs, G, ownsRow_below ho b, fun j hj => ⟨(hx j hj).1, (hx j hj).2.below b⟩, hg⟩, h.bel.trans (b.mono h.bel.size), Nat.lt_of_lt_of_le h.here b.size, h.old⟩
theorem CopiedW.step {w wr w2 : World} {B : Nat} {rs : List Wr} {k g : Nat} (h : CopiedW w wr B rs k) (b : Below wr.heap.size wr w2) (hk : k < rs.length) (ho2 : OwnI w2 wr.heap.size (.slice (some ⟨g, 0, none⟩) (elAt rs k).q.length (elAt rs k).q.length) (elAt rs k).q) :
    CopiedW w (((((w2.setCell ⟨B, k * 5, none⟩ (.string (elAt rs k).n)).setCell ⟨B, k * 5 + 1, none⟩ (.int .i64 (elAt rs k).r)).setCell ⟨B, k * 5 + 2, none⟩ (.slice (some ⟨g, 0, none⟩) (elAt rs k).q.length (elAt rs k).q.length)).setCell ⟨B, k * 5 + 3, none⟩ (.bool (elAt rs k).l)).setCell ⟨B, k * 5 + 4, none⟩ (.string (elAt rs k).d)) B rs (k + 1) := by
  have hB := h.here
  have h2 := h.call b
  have lg := (ho2.lies g rfl).1
  obtain ⟨xs, G, ho, hx, hg⟩ := h.own
  have hoB := ownsRow_below ho b
  have hl := ho.1
  have o0 := (hoB.stored (k * 5) (.string (elAt rs k).n)).1
  have o1 := (o0.stored (k * 5 + 1) (.int .i64 (elAt rs k).r)).1
  have o2 := (o1.stored (k * 5 + 2) (.slice (some ⟨g, 0, none⟩) (elAt rs k).q.length (elAt rs k).q.length)).1
  have o3 := (o2.stored (k * 5 + 3) (.bool (elAt rs k).l)).1
  have o4 := (o3.stored (k * 5 + 4) (.string (elAt rs k).d)).1
  refine ⟨⟨_, fun j => if j = k then g else G j, o4, fun j hj => ⟨fun q hq => ?_, ?_⟩, fun i j hij hj => ?_⟩, ((((h2.bel.setCell h.old _).setCell h.old _).setCell h.old _).setCell h.old _).setCell h.old _, by have := h2.here; simpa [World.setCell] using this, h.old⟩
  · by_cases e : j = k
    · subst e
      simp only [if_true]
      have hq' : q = 0 ∨ q = 1 ∨ q = 2 ∨ q = 3 ∨ q = 4 := by omega
      rcases hq' with rfl | rfl | rfl | rfl | rfl
      · rw [List.getElem?_set_ne (by omega), List.getElem?_set_ne (by omega), List.getElem?_set_ne (by omega), List.getElem?_set_ne (by omega)]; exact List.getElem?_set_self (by first | omega | (simp; omega))
      · rw [List.getElem?_set_ne (by omega), List.getElem?_set_ne (by omega), List.getElem?_set_ne (by omega)]; exact List.getElem?_set_self (by first | omega | (simp; omega))
      · rw [List.getElem?_set_ne (by omega), List.getElem?_set_ne (by omega)]; exact List.getElem?_set_self (by first | omega | (simp; omega))
      · rw [List.getElem?_set_ne (by omega)]; exact List.getElem?_set_self (by first | omega | (simp; omega))
      · exact List.getElem?_set_self (by first | omega | (simp; omega))
    · simp only [e, if_false]
      rw [List.getElem?_set_ne (by omega), List.getElem?_set_ne (by omega), List.getElem?_set_ne (by omega), List.getElem?_set_ne (by omega), List.getElem?_set_ne (by omega)]
      exact (hx j (by omega)).1 q hq
  · by_cases e : j = k
    · subst e
      simp only [if_true]
      exact (((((ho2.mono (by omega)).set_other _ (by simp [Value.ownBlock]; omega)).set_other _ (by simp [Value.ownBlock]; omega)).set_other _ (by simp [Value.ownBlock]; omega)).set_other _ (by simp [Value.ownBlock]; omega)).set_other _ (by simp [Value.ownBlock]; omega)
    · simp only [e, if_false]
      have hj' : j < k := by omega
      have l := (hx j hj').2.lies (G j) rfl
      exact ((((((hx j hj').2.below b).set_other _ (by simp [Value.ownBlock]; omega)).set_other _ (by simp [Value.ownBlock]; omega)).set_other _ (by simp [Value.ownBlock]; omega)).set_other _ (by simp [Value.ownBlock]; omega)).set_other _ (by simp [Value.ownBlock]; omega)
  · have hi : ¬ i = k := by omega
    simp only [hi, if_false]
    by_cases e : j = k
    · simp only [e, if_true]
      have := ((hx i (by omega)).2.lies (G i) rfl).2
      omega
    · simp only [e, if_false]
      exact hg i j hij (by omega)
theorem CopiedW.done {w wr : World} {B : Nat} {rs : List Wr} (h : CopiedW w wr B rs rs.length) (hs : rs.length ≤ 1048576) : OwnW wr B wr.heap.size rs.length rs := by
  obtain ⟨xs, G, ho, hx, hg⟩ := h.own
  have el : ∀ i, i < rs.length → elAt ((List.range rs.length).map fun i => (⟨elAt rs i, G i⟩ : Wg)) i = ⟨elAt rs i, G i⟩ := fun i hi => by simp [elAt, hi]
  refine ⟨rfl, hs, h.here, (List.range rs.length).map fun i => ⟨elAt rs i, G i⟩, by simp, fun i hi => by rw [el i hi], ⟨⟨xs, by simpa using ho, fun j hj q hq => ?_⟩⟩, fun i hi => ?_, fun i j hij hj => ?_, fun i hi => ?_⟩
  · have hj' : j < rs.length := by simpa using hj
    rw [el j hj']
    exact (hx j hj').1 q hq
  · rw [el i hi]; exact (hx i hi).2
  · rw [el i (by omega), el j hj]; exact hg i j hij hj
  · rw [el i hi]; exact ((hx i hi).2.lies _ rfl).2


end Go.Proofs.Ytfehfocfoegbdaa
