/-
  Plain facts of runways: the speeds that are told suffice; on a longer runway no fewer do. No program here.
-/
import Derived.Test.YtkebjipmbgjilabRunPure
namespace Go.Proofs.Ytkebjipmbgjilab

theorem suff_parts {p d s e lift way v : Int} (h : suffB p d s e lift way v = true) : ((rollR p d s e v lift).2.2 = true ∧ (rollR p d s e v lift).1 ≤ way) ∧ (stopR p d s e v).2 = true ∧ (stopR p d s e v).1 ≤ way := by
  simp only [suffB, Bool.and_eq_true, decide_eq_true_eq] at h
  exact ⟨⟨h.1.1.1, h.1.2⟩, h.1.1.2, h.2⟩

theorem runways_law {p d s e lift way way' : Int} (h : decOk p d s e lift way = true) (h' : decOk p d s e lift way' = true) (hw : way ≤ way') :
    decR p d s e lift way = (0, 0, false) ∨ ∃ a b x y : Int, decR p d s e lift way = (a, b, true) ∧ decR p d s e lift way' = (x, y, true) ∧ x ≤ a ∧ b ≤ y ∧ a ≤ b ∧
      ((rollR p d s e a lift).2.2 = true ∧ (rollR p d s e a lift).1 ≤ way) ∧ (stopR p d s e b).2 = true ∧ (stopR p d s e b).1 ≤ way := by
  rw [decR_yes h, decR_yes h']
  rcases low_is (p := p) (d := d) (s := s) (e := e) (lift := lift) (way := way) (lift.toNat + 1) with ⟨h1, _, _⟩ | ⟨a, b, hab, hb, ha1, hb1, sa, sb, _⟩
  · exact .inl (if_pos h1)
  · refine .inr ⟨a, b, ?_⟩
    rcases low_is (p := p) (d := d) (s := s) (e := e) (lift := lift) (way := way') (lift.toNat + 1) with ⟨_, _, h3⟩ | ⟨x, y, hxy, hy, hx1, hy1, _, _, all⟩
    · have := h3 a (by omega)
      rw [suff_longer hw sa] at this
      cases this
    · have k1 := all a (by omega) (suff_longer hw sa)
      have k2 := all b (by omega) (suff_longer hw sb)
      refine ⟨x, y, ?_, ?_, by omega, by omega, by omega, (suff_parts sa).1, (suff_parts sb).2⟩
      · rw [if_neg (by omega), ha1, hb1]
      · rw [if_neg (by omega), hx1, hy1]

end Go.Proofs.Ytkebjipmbgjilab
