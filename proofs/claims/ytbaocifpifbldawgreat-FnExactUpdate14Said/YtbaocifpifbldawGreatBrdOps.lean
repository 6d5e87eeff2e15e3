/-
  A name taken: what the program's take answers. Nothing but the board's own sets is written.
-/
import Derived.Test.YtbaocifpifbldawGreatSetOf
import Derived.Test.YtbaocifpifbldawGreatBel
namespace Go.Proofs.YtbaocifpifbldawGreat
open Go.RowKit Go.Maps Go.WideMaps

theorem Only.turned {w w' : World} {b lo hi : Nat} (h : w.mapTurned w' b) (h1 : lo ≤ b) (h2 : b < hi) : Only lo hi w w' := Only.of_row h.grown (fun g hg => by cases hg; exact ⟨h1, h2⟩)
theorem Blk.turned {w w' : World} {B b : Nat} {vs : List Value} (h : Blk w B vs) (k : w.mapTurned w' b) (hne : B ≠ b) : Blk w' B vs := h.apart k.grown (by simp [hne])
theorem SetIs.clear {w : World} {b n : Nat} {S : ByteArray → Bool} (h : SetIs w b n S) : ∃ w', (∀ ty, (Builtin.clear_ #[59] ty #[.map (some b)]).run Tryz.prog w = .ok (.tuple #[]) w') ∧ SetIs w' b 0 (fun _ => false) ∧ w.mapTurned w' b := by
  obtain ⟨w', h1, h2, h3⟩ := MapIs.clear h Tryz.underlying59
  exact ⟨w', h1, by unfold SetIs; rw [← setF_none]; exact h2, h3⟩
theorem SetIs.drop {w : World} {b n : Nat} {S : ByteArray → Bool} (h : SetIs w b n S) {s : ByteArray} (hs : s.size ≤ 9223372036854775807) : ∃ w', (∀ ty, (Builtin.delete_ #[59, 9] ty #[.map (some b), .string s]).run Tryz.prog w = .ok (.tuple #[]) w') ∧ SetIs w' b n (delS S s) ∧ w.mapTurned w' b := by
  obtain ⟨w', h1, h2, h3⟩ := MapIs.drop h Tryz.underlying59 hs
  exact ⟨w', h1, by unfold SetIs; rw [← setF_del]; exact h2, h3⟩
/-- What is taken then. -/
def tkS (c : Bool) (S : ByteArray → Bool) (s : ByteArray) : ByteArray → Bool := if c = true then addS S s else S

end Go.Proofs.YtbaocifpifbldawGreat
