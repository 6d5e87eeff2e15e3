/-
  What the walks over the islands hold on to; what is told of a net. No condition.
-/
import Derived.Test.YtfahhjgpgccdhacNetSpec
import Derived.Test.YtfahhjgpgccdhacLists
import Derived.Test.YtfahhjgpgccdhacIslePure
import Derived.Test.YtfahhjgpgccdhacMarkI
namespace Go.Proofs.Ytfahhjgpgccdhac
open Go.RowKit

theorem specNetOk_is {b : Bool} (n : Int) (a1 a2 a3 : Option Addr) (l1 c1 l2 c2 l3 c3 : Nat) (ss : List Sr) (ts : List Ti) (us : List Us) (w : World) (r : NetIn w a1 a2 a3 l1 l2 l3 ss ts us) (h : netB n ss ts us = b) :
    Calls Try.prog 35 #[.agg #[.int .i64 n, .slice a1 l1 c1, .slice a2 l2 c2, .slice a3 l3 c3]] w fun x w' => x = .returned (.bool b) ∧ Below w.heap.size w w' := by
  subst h; exact specNetOk_any n a1 a2 a3 l1 c1 l2 c2 l3 c3 ss ts us w r.r1 r.r2 r.r3

/-- What is told. -/
noncomputable def isleL (n : Int) (ss : List Sr) (ts : List Ti) (us : List Us) : List Int := if netB n ss ts us = true then isleR n.toNat ts else []
theorem isleL_no {n : Int} {ss : List Sr} {ts : List Ti} {us : List Us} (h : netB n ss ts us = false) : isleL n ss ts us = [] := by simp [isleL, h]
theorem isleL_yes {n : Int} {ss : List Sr} {ts : List Ti} {us : List Us} (h : netB n ss ts us = true) : isleL n ss ts us = isleR n.toNat ts := by simp [isleL, h]
theorem isleL_small {n : Int} {ss : List Sr} {ts : List Ti} {us : List Us} (h : netB n ss ts us = true → IsIsle n.toNat ts (isleL n ss ts us)) : (isleL n ss ts us).length ≤ 1048576 := by
  cases hb : netB n ss ts us with
  | false => rw [isleL_no hb]; simp
  | true =>
    have := in_facts (netB_parts hb).1
    rw [(h hb).len]; omega
/-- The ties of a net that is so. -/
theorem tie_facts {n : Int} {ss : List Sr} {ts : List Ti} {us : List Us} (h : netB n ss ts us = true) {k : Nat} (hk : k < ts.length) :
    (0 ≤ (elAt ts k).a0 ∧ (elAt ts k).a0 ≤ n - 1) ∧ (0 ≤ (elAt ts k).a1 ∧ (elAt ts k).a1 ≤ n - 1) ∧ (elAt ts k).a0 ≠ (elAt ts k).a1 := by
  have h2 := (netB_parts h).2.2.1
  simp only [tsB, Bool.and_eq_true] at h2
  have h3 := everyB_at h2.2 hk
  simp only [tiB, Bool.and_eq_true, Bool.not_eq_true', beq_eq_false_iff_ne] at h3
  exact ⟨in_facts h3.1.1, in_facts h3.1.2, h3.2⟩

/-- The sum of a list's numbers, read. -/
def sumAt (w : World) (g n : Nat) : Nat := sumZ ((List.range n).map fun i => intOf ((w.cell? ⟨g, i, none⟩).getD (.int .i64 0)))
theorem sumAt_own {w : World} {base g n c : Nat} {zs : List Int} (h : OwnI w base (.slice (some ⟨g, 0, none⟩) n c) zs) (hl : zs.length = n) : sumAt w g n = sumZ zs := by
  subst hl
  unfold sumAt
  congr 1
  refine List.ext_getElem (by simp) fun i h1 h2 => ?_
  simp only [List.getElem_map, List.getElem_range]
  rw [(h.here i h2).1]
  simp [intOf, nth, List.getElem?_eq_getElem h2]
theorem sumAt_drewN (w : World) (m g n : Nat) : sumAt (w.drewN m) g n = sumAt w g n := rfl

/-- What the passes hold on to. -/
structure IsleIn (W wr : World) (g c N : Nat) (ts : List Ti) (zs : List Int) : Prop where
  bel : Below W.heap.size W wr
  own : OwnI wr W.heap.size (.slice (some ⟨g, 0, none⟩) N c) zs
  to_ : IsleTo N ts zs
theorem IsleIn.drewN {W wr : World} {g c N : Nat} {ts : List Ti} {zs : List Int} (h : IsleIn W wr g c N ts zs) (m : Nat) : IsleIn W (wr.drewN m) g c N ts zs :=
  ⟨h.bel.trans (bel0d' m), h.own.below (bel0d m), h.to_⟩
theorem IsleIn.here {W wr : World} {g c N : Nat} {ts : List Ti} {zs : List Int} (h : IsleIn W wr g c N ts zs) {i : Nat} (hi : i < N) : wr.cell? ⟨g, i, none⟩ = some (.int .i64 (nth zs i)) ∧ wr.frozen? ⟨g, i, none⟩ = false := by
  have o := h.own
  rw [← h.to_.len] at o
  exact o.here i (by rw [h.to_.len]; exact hi)
theorem IsleIn.join {W wr : World} {g c N : Nat} {ts : List Ti} {zs : List Int} (h : IsleIn W wr g c N ts zs) {k : Nat} (hk : k < ts.length) (hc : (elAt ts k).a2 = true) {A B : Nat} (hA : (elAt ts k).a0 = A) (hB : (elAt ts k).a1 = B) (h0 : A < N) (h1 : B < N) (hg : W.heap.size ≤ g) :
    IsleIn W ((wr.setCell ⟨g, A, none⟩ (.int .i64 (min (nth zs A) (nth zs B)))).setCell ⟨g, B, none⟩ (.int .i64 (min (nth zs A) (nth zs B)))) g c N ts (joinT zs A B) := by
  have t := joinT_to h.to_ hk hc (by omega) (by omega)
  rw [hA, hB] at t
  simp only [Int.toNat_natCast] at t
  refine ⟨(h.bel.setCell hg _).setCell hg _, ?_, t⟩
  have hl := h.to_.len
  have o := h.own
  rw [← hl] at o
  have f := o.fit
  have o1 := o.set A (by omega) (min (nth zs A) (nth zs B)) (by have := f A; have := f B; omega)
  have hl1 : (zs.set A (min (nth zs A) (nth zs B))).length = zs.length := by simp
  rw [← hl1] at o1
  have o2 := o1.set B (by rw [hl1]; omega) (min (nth zs A) (nth zs B)) (by have := f A; have := f B; omega)
  rw [hl1, hl] at o2
  exact o2

end Go.Proofs.Ytfahhjgpgccdhac
