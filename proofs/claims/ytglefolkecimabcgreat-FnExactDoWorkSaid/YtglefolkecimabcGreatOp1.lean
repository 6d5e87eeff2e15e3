/-
  How a list of Tasks is opened: its texts and numbers. No condition.
  How a list of Carrys is opened: its texts and numbers. No condition.
  How a list of Defects is opened: its texts and numbers. No condition.
-/
import Derived.Test.YtglefolkecimabcGreatOpenTs
import Derived.Test.YtglefolkecimabcGreatMaPure
import Derived.Test.YtglefolkecimabcGreatOpen
import Derived.Test.YtglefolkecimabcGreatOpenE

namespace Go.Proofs.YtglefolkecimabcGreat
open Go.ChangeShapes Go.WideShapes Go.ChangeAt Go.RowKit Go.Joins Go.Deep

theorem fitTs_all {ps : List Ts} {len : Nat} (hl : ps.length = len) (h : ∀ i, i < len → fitT (elAt ps i).nm) : ∀ i, fitT (elAt ps i).nm := by
  intro i
  by_cases hi : i < len
  · exact h i hi
  · unfold elAt
    rw [List.getElem?_eq_none (by omega)]
    show (⟨#[]⟩ : ByteArray).size ≤ 9223372036854775807
    decide
theorem rowTk_of {H : Type} {enc : TypeId × Value → H} {W : World} {base fuel : Nat} {held : Bool} {v : Value} {y : DataW H × List MemPlace}
    (h : DataW.trod enc Tryz.prog W base (fun _ => true) held fuel 22 [v] = some y) :
    ∃ a len cap ps, v = .slice a len cap ∧ (RowE 7 tsC W a len ps ∧ ∀ i, fitT (elAt ps i).nm) ∧ len ≤ cap ∧ True := by
  obtain ⟨a, len, cap, ps, hv, hr, hc, hp⟩ := rowE_of (cells := tsC) (Pr := fun p => fitT p.nm) Tryz.underlying22 cellsTs (by omega) (fun n cs y hl h => by
    obtain ⟨x, e, hx⟩ := task_of hl h
    refine ⟨x, hx, fun q hq => ?_⟩
    subst e
    have hq' : q = 0 ∨ q = 1 ∨ q = 2 ∨ q = 3 ∨ q = 4 ∨ q = 5 ∨ q = 6 := by omega
    rcases hq' with rfl | rfl | rfl | rfl | rfl | rfl | rfl <;> rfl) h
  exact ⟨a, len, cap, ps, hv, ⟨hr, fitTs_all hr.len_eq hp⟩, hc, trivial⟩

end Go.Proofs.YtglefolkecimabcGreat

namespace Go.Proofs.YtglefolkecimabcGreat
open Go.ChangeShapes Go.WideShapes Go.ChangeAt Go.RowKit Go.Joins Go.Deep

theorem cellsCarry : Tryz.prog.cellsOf 86 = 3 := by kernel_rfl
theorem fitCr_all {ps : List Cr} {len : Nat} (hl : ps.length = len) (h : ∀ i, i < len → fitT (elAt ps i).n) : ∀ i, fitT (elAt ps i).n := by
  intro i
  by_cases hi : i < len
  · exact h i hi
  · unfold elAt
    rw [List.getElem?_eq_none (by omega)]
    show (⟨#[]⟩ : ByteArray).size ≤ 9223372036854775807
    decide
theorem rowCr_of {H : Type} {enc : TypeId × Value → H} {W : World} {base fuel : Nat} {held : Bool} {v : Value} {y : DataW H × List MemPlace}
    (h : DataW.trod enc Tryz.prog W base (fun _ => true) held fuel 23 [v] = some y) :
    ∃ a len cap ps, v = .slice a len cap ∧ (RowE 3 crC W a len ps ∧ ∀ i, fitT (elAt ps i).n) ∧ len ≤ cap ∧ True := by
  obtain ⟨a, len, cap, ps, hv, hr, hc, hp⟩ := rowE_of (cells := crC) (Pr := fun p => fitT p.n) Tryz.underlying23 cellsCarry (by omega) (fun n cs y hl h => by
    obtain ⟨k, hf⟩ := fields_of1 Tryz.underlying86 (by kernel_rfl) hl h
    obtain ⟨c0, y0, e0, t0⟩ := hf 0 _ rfl
    obtain ⟨c1, y1, e1, t1⟩ := hf 1 _ rfl
    obtain ⟨c2, y2, e2, t2⟩ := hf 2 _ rfl
    obtain ⟨b0, f0, _, s0⟩ := DataW.trod_string Tryz.underlying9 t0
    obtain ⟨b1, f1, _, s1⟩ := DataW.trod_int Tryz.underlying3 t1
    obtain ⟨b2, f2, _, s2⟩ := DataW.trod_int Tryz.underlying3 t2
    simp only [List.cons.injEq, and_true] at f0 f1 f2
    subst f0 f1 f2
    refine ⟨⟨b0, b1, b2⟩, by unfold maxLen at s0; exact s0, fun q hq => ?_⟩
    have hq' : q = 0 ∨ q = 1 ∨ q = 2 := by omega
    rcases hq' with rfl | rfl | rfl <;> assumption) h
  exact ⟨a, len, cap, ps, hv, ⟨hr, fitCr_all hr.len_eq hp⟩, hc, trivial⟩

end Go.Proofs.YtglefolkecimabcGreat

namespace Go.Proofs.YtglefolkecimabcGreat
open Go.ChangeShapes Go.WideShapes Go.ChangeAt Go.RowKit Go.Joins Go.Deep

theorem cellsDefect : Tryz.prog.cellsOf 89 = 3 := by kernel_rfl
theorem fitDf_all {ps : List Df} {len : Nat} (hl : ps.length = len) (h : ∀ i, i < len → fitT (elAt ps i).n) : ∀ i, fitT (elAt ps i).n := by
  intro i
  by_cases hi : i < len
  · exact h i hi
  · unfold elAt
    rw [List.getElem?_eq_none (by omega)]
    show (⟨#[]⟩ : ByteArray).size ≤ 9223372036854775807
    decide
theorem rowDf_of {H : Type} {enc : TypeId × Value → H} {W : World} {base fuel : Nat} {held : Bool} {v : Value} {y : DataW H × List MemPlace}
    (h : DataW.trod enc Tryz.prog W base (fun _ => true) held fuel 24 [v] = some y) :
    ∃ a len cap ps, v = .slice a len cap ∧ (RowE 3 dfC W a len ps ∧ ∀ i, fitT (elAt ps i).n) ∧ len ≤ cap ∧ True := by
  obtain ⟨a, len, cap, ps, hv, hr, hc, hp⟩ := rowE_of (cells := dfC) (Pr := fun p => fitT p.n) Tryz.underlying24 cellsDefect (by omega) (fun n cs y hl h => by
    obtain ⟨k, hf⟩ := fields_of1 Tryz.underlying89 (by kernel_rfl) hl h
    obtain ⟨c0, y0, e0, t0⟩ := hf 0 _ rfl
    obtain ⟨c1, y1, e1, t1⟩ := hf 1 _ rfl
    obtain ⟨c2, y2, e2, t2⟩ := hf 2 _ rfl
    obtain ⟨b0, f0, _, s0⟩ := DataW.trod_string Tryz.underlying9 t0
    obtain ⟨b1, f1, _, s1⟩ := DataW.trod_int Tryz.underlying3 t1
    obtain ⟨b2, f2, _, s2⟩ := DataW.trod_int Tryz.underlying3 t2
    simp only [List.cons.injEq, and_true] at f0 f1 f2
    subst f0 f1 f2
    refine ⟨⟨b0, b1, b2⟩, by unfold maxLen at s0; exact s0, fun q hq => ?_⟩
    have hq' : q = 0 ∨ q = 1 ∨ q = 2 := by omega
    rcases hq' with rfl | rfl | rfl <;> assumption) h
  exact ⟨a, len, cap, ps, hv, ⟨hr, fitDf_all hr.len_eq hp⟩, hc, trivial⟩

end Go.Proofs.YtglefolkecimabcGreat
