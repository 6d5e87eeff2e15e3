/-
  What is due next, in plain lists. No program here.
-/
import Derived.Test.YtilahgifaglekbcMaPure
namespace Go.Proofs.Ytilahgifaglekbc
open Go Go.RowKit

theorem nx_no {f : Fl} (h : flB f = false) : nxR f = (⟨#[]⟩, 0, false) := by simp [nxR, h]
theorem nx_yes {f : Fl} (h : flB f = true) : nxR f = nxK f f.ts.length := by simp [nxR, h]
theorem nx_take {f : Fl} {k : Nat} (h : d9D (elAt f.ts k) f.nh f.nc f.nd = false) (h2 : 0 < (elAt f.ts k).c) (h3 : (nxK f k).2.2 = false ∨ d9C (elAt f.ts k) f.nh f.nc f.nd < (nxK f k).2.1) : nxK f (k + 1) = ((elAt f.ts k).nm, d9C (elAt f.ts k) f.nh f.nc f.nd, true) := by rw [nxK, if_pos ⟨h, h2, h3⟩]
theorem nx_keep {f : Fl} {k : Nat} (h : d9D (elAt f.ts k) f.nh f.nc f.nd = true ∨ ¬ 0 < (elAt f.ts k).c ∨ ((nxK f k).2.2 = true ∧ ¬ d9C (elAt f.ts k) f.nh f.nc f.nd < (nxK f k).2.1)) : nxK f (k + 1) = nxK f k := by
  rw [nxK, if_neg]
  rintro ⟨a, b, c⟩
  rcases h with h | h | ⟨h1, h2⟩
  · rw [h] at a; cases a
  · exact h b
  · rcases c with c | c
    · rw [h1] at c; cases c
    · exact h2 c
theorem ret_nx {x : ByteArray × Int × Bool} {a : ByteArray} {b : Int} {c : Bool} (h : x = (a, b, c)) : Ending.returned (.tuple #[.string a, .int .i64 b, .bool c]) = .returned (.tuple #[.string x.1, .int .i64 x.2.1, .bool x.2.2]) := by rw [h]

end Go.Proofs.Ytilahgifaglekbc
