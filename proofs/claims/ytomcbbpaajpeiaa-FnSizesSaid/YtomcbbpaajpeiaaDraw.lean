/-
  The drawing cursor at hand: it lies in one block, the bytes elsewhere, and nothing that was there has turned. What the drawing functions answer, so said. No condition.
-/
import Derived.Test.YtomcbbpaajpeiaaKeeps
import Derived.Test.YtomcbbpaajpeiaaMarkI
namespace Go.Proofs.Ytomcbbpaajpeiaa
open Go.RowKit

structure Dr (w : World) (C : Nat) (a : Option Addr) (len cap : Nat) (W : World) : Prop where
  cur : Cur W C a len cap
  byt : Bytes W a len
  bel : Below w.heap.size w W
  ne : ∀ b off, a = some ⟨b, off, none⟩ → b ≠ C
  ge : w.heap.size ≤ C
  lt : C < W.heap.size
theorem Dr.below {w : World} {C : Nat} {a : Option Addr} {len cap : Nat} {W W' : World} (h : Dr w C a len cap W) (b : Below W.heap.size W W') : Dr w C a len cap W' :=
  ⟨h.cur.below b, h.byt.below b, h.bel.trans (b.mono h.bel.size), h.ne, h.ge, Nat.lt_of_lt_of_le h.lt b.size⟩
theorem Dr.step {w : World} {C : Nat} {a : Option Addr} {len cap : Nat} {W W' : World} (h : Dr w C a len cap W) (c : Cur W' C a len cap) (g : W.grownBy W' (some C)) : Dr w C a len cap W' :=
  ⟨c, h.byt.far g (fun b off e => by have := h.ne b off e; simp [this]), h.bel.grown g h.bel.size (fun k hk => by cases hk; exact h.ge), h.ne, h.ge, Nat.lt_of_lt_of_le h.lt g.size⟩
/-- A list that grows behind the cursor's block: what is appended leaves the cursor. -/
theorem Dr.own {w : World} {C : Nat} {a : Option Addr} {len cap : Nat} {W W' : World} {row : Option Nat} (h : Dr w C a len cap W) (g : W.grownBy W' row) (hr : ∀ k, row = some k → C < k) (hin : ∀ b off, a = some ⟨b, off, none⟩ → b < w.heap.size) : Dr w C a len cap W' := by
  have ge := h.ge
  refine ⟨h.cur.far g (fun e => ?_), h.byt.far g (fun b off e e2 => ?_), h.bel.grown g h.bel.size (fun k hk => ?_), h.ne, h.ge, Nat.lt_of_lt_of_le h.lt g.size⟩
  · have := hr C e.symm; omega
  · have h1 := hr b e2.symm; have h2 := hin b off e; omega
  · have := hr k hk; omega
theorem drNew (a : Option Addr) (len cap : Nat) (w : World) (hb : Bytes w a len) (hin : ∀ b off, a = some ⟨b, off, none⟩ → b < w.heap.size) :
    Calls Try.prog 17 #[.slice a len cap] w fun e w' => e = .returned (.pointer (some ⟨w.heap.size, 0, none⟩)) ∧ Dr w w.heap.size a len cap w' ∧ Below w.heap.size w w' := by
  refine (l1New_any a len cap w hb).mono ?_
  rintro x w' ⟨rfl, hc, b⟩
  exact ⟨rfl, ⟨hc, hb.below b, b, fun b' off e => by have := hin b' off e; omega, Nat.le_refl _, hc.lt⟩, b⟩
theorem drBelow {w : World} {C : Nat} {a : Option Addr} {len cap : Nat} (n : Int) (W : World) (h : Dr w C a len cap W) (hn : 1 ≤ n ∧ n ≤ 1000000) :
    Calls Try.prog 23 #[.pointer (some ⟨C, 0, none⟩), .int .i64 n] W fun e w' => ∃ x : Int, e = .returned (.int .i64 x) ∧ (0 ≤ x ∧ x < n) ∧ Dr w C a len cap w' ∧ W.grownBy w' (some C) := by
  refine (l1Below_any C a len cap n W h.cur h.byt h.ne hn).mono ?_
  rintro e w' ⟨x, rfl, hx, hc, g⟩
  exact ⟨x, rfl, hx, h.step hc g, g⟩
theorem drOnce {w : World} {C : Nat} {a : Option Addr} {len cap : Nat} (n : Int) (W : World) (h : Dr w C a len cap W) (hn : 1 ≤ n ∧ n ≤ 1000000) :
    Calls Try.prog 28 #[.pointer (some ⟨C, 0, none⟩), .int .i64 n] W fun e w' => ∃ x : Bool, e = .returned (.bool x) ∧ Dr w C a len cap w' ∧ W.grownBy w' (some C) := by
  refine (l1Once_any C a len cap n W h.cur h.byt h.ne hn).mono ?_
  rintro e w' ⟨x, rfl, hc, g⟩
  exact ⟨x, rfl, h.step hc g, g⟩

end Go.Proofs.Ytomcbbpaajpeiaa
