/-
  The fleet behind a deed as a value in memory; its lists are no longer than memory. No condition.
-/
import Derived.Test.YticdccdkjepifaaGreatMFlIn
import Derived.Test.YticdccdkjepifaaGreatMOnly
import Derived.Test.YticdccdkjepifaaGreatMMkCr
import Derived.Test.YticdccdkjepifaaGreatRegInv
import Derived.Test.YticdccdkjepifaaGreatOpO
import Derived.Test.YticdccdkjepifaaGreatMTxDe
namespace Go.Proofs.YticdccdkjepifaaGreat
open Go Go.RowKit

def DvF (base : Nat) (f' : Fl) (F : Value) (W : World) : Prop := ∃ g1 p1 g2 p2 g3 p3 : Nat, F = .agg #[.slice (some ⟨g1, 0, none⟩) f'.ts.length p1, .slice (some ⟨g2, 0, none⟩) f'.cs.length p2, .slice (some ⟨g3, 0, none⟩) f'.ds.length p3, .int .i64 f'.nh, .int .i64 f'.nc, .int .i64 f'.nd] ∧ FlOwn W base (some ⟨g1, 0, none⟩) (some ⟨g2, 0, none⟩) (some ⟨g3, 0, none⟩) f'.ts.length p1 f'.cs.length p2 f'.ds.length p3 f'.ts f'.cs f'.ds
theorem DvF.below {base : Nat} {f' : Fl} {F : Value} {W W' : World} (h : DvF base f' F W) (b : Below W.heap.size W W') : DvF base f' F W' := by
  obtain ⟨g1, p1, g2, p2, g3, p3, e, o⟩ := h
  exact ⟨g1, p1, g2, p2, g3, p3, e, o.below b⟩
theorem DvF.mono {base base' : Nat} {f' : Fl} {F : Value} {W : World} (h : DvF base f' F W) (b : base' ≤ base) : DvF base' f' F W := by
  obtain ⟨g1, p1, g2, p2, g3, p3, e, o⟩ := h
  exact ⟨g1, p1, g2, p2, g3, p3, e, o.mono b⟩
def cells6 (v : Value) : List Value := match v with
  | .agg cs => cs.toList
  | _ => []
def apF (F : Value) (S : Nat) : Prop := ∀ v ∈ cells6 F, v.ownBlock ≠ some S
theorem flB_ds {f : Fl} (h : flB f = true) : f.ds.length ≤ 20 := by
  have := (flB_facts h).2.2.2
  simp only [listI, Bool.and_eq_true, decide_eq_true_eq] at this
  omega
theorem dv_len {f : Fl} {d : De} (h1 : f.ts.length ≤ 1048576) (h2 : f.cs.length ≤ 1048576) (h3 : f.ds.length ≤ 1048576) : (dwF f d).ts.length ≤ 1048576 ∧ (dwF f d).cs.length ≤ 1048576 ∧ (dwF f d).ds.length ≤ 1048576 := by
  unfold dwF
  by_cases c : dwB f d = false
  · rw [if_pos c]; exact ⟨h1, h2, h3⟩
  rw [if_neg c]
  have hb : flB f = true := by
    cases q : flB f
    · exact absurd (by simp [dwB, q]) c
    · rfl
  have h20 := flB_ds hb
  by_cases k1 : d.k = 1
  · rw [if_pos k1]; exact ⟨h1, h2, h3⟩
  rw [if_neg k1]
  by_cases k2 : d.k = 2
  · rw [if_pos k2]; exact ⟨by simpa using h1, h2, h3⟩
  rw [if_neg k2]
  by_cases k3 : d.k = 3
  · rw [if_pos k3]; exact ⟨h1, h2, by simp; omega⟩
  rw [if_neg k3]
  by_cases k4 : d.k = 4
  · rw [if_pos k4]; exact ⟨h1, h2, by simp; omega⟩
  rw [if_neg k4]; exact ⟨h1, h2, h3⟩

end Go.Proofs.YticdccdkjepifaaGreat
