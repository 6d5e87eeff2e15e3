/-
  Floats: all NaNs told as one; what an operation gives in whatever world. No condition.
-/
import Derived.Test.YtomcbbpaajpeiaaBase
import Derived.Deep.Draws
import Derived.Laws.ComplexArith
namespace Go.Proofs.Ytomcbbpaajpeiaa
open Go

/-- A NaN of the kind. -/
def nanB (k : FloatKind) (x : Nat) : Bool := (k.format.read x).isNaN

/-- One value: the same bits, or both NaNs. -/
def Alike (k : FloatKind) (x y : Nat) : Prop := x = y ∨ (nanB k x = true ∧ nanB k y = true)

theorem Alike.refl (k : FloatKind) (x : Nat) : Alike k x x := .inl rfl
theorem Alike.symm {k : FloatKind} {x y : Nat} (h : Alike k x y) : Alike k y x := by
  rcases h with rfl | ⟨a, b⟩
  · exact .inl rfl
  · exact .inr ⟨b, a⟩
theorem Alike.nan {k : FloatKind} {x y : Nat} (h : Alike k x y) : nanB k x = nanB k y := by
  rcases h with rfl | ⟨a, b⟩
  · rfl
  · rw [a, b]
theorem Alike.trans {k : FloatKind} {x y z : Nat} (h : Alike k x y) (g : Alike k y z) : Alike k x z := by
  rcases h with rfl | ⟨a, b⟩
  · exact g
  · exact .inr ⟨a, by rw [← g.nan]; exact b⟩

/-- The one NaN that stands for all. -/
def qnan : FloatKind → Nat
  | .f32 => 0x7fc00000
  | .f64 => 0x7ff8000000000000
theorem nanB_qnan (k : FloatKind) : nanB k (qnan k) = true := by cases k <;> decide

/-- What an operation gives, all NaNs told as one. -/
def fl (op : BinOp) (k : FloatKind) (x y : Nat) : Nat := (floatBits op k x y).getD (qnan k)

theorem floatBits_nan {op : BinOp} {k : FloatKind} {x y : Nat} (h : nanB k x = true ∨ nanB k y = true) : floatBits op k x y = none := by
  unfold nanB at h
  unfold floatBits
  split <;> simp only [Ieee.Format.add, Ieee.Format.sub, Ieee.Format.mul, Ieee.Format.div, Option.map_eq_none_iff]
  all_goals
    cases hx : k.format.read x <;> cases hy : k.format.read y <;> simp [hx, hy, Ieee.Datum.isNaN] at h <;> simp [Ieee.Datum.sum, Ieee.Datum.product, Ieee.Datum.quotient, Ieee.Datum.opposite]

theorem Alike.fl {op : BinOp} {k : FloatKind} {x y x' y' : Nat} (hx : Alike k x x') (hy : Alike k y y') : Alike k (fl op k x y) (fl op k x' y') := by
  by_cases hn : nanB k x = true ∨ nanB k y = true
  · have hn' : nanB k x' = true ∨ nanB k y' = true := by rw [← hx.nan, ← hy.nan]; exact hn
    unfold Ytomcbbpaajpeiaa.fl
    rw [floatBits_nan hn, floatBits_nan hn']
    exact .refl _ _
  · rcases hx with rfl | ⟨a, _⟩
    · rcases hy with rfl | ⟨b, _⟩
      · exact .refl _ _
      · exact absurd (.inr b) hn
    · exact absurd (.inl a) hn

/-- Words and what they stand for. -/
theorem read_cases (f : Ieee.Format) (hb : f.binade ≤ f.infRung) (x : Nat) :
    ((f.read x).isNaN = true ↔ f.infRung < x % f.signWeight) ∧ ((f.read x).isInfinity = true ↔ x % f.signWeight = f.infRung) := by
  unfold Ieee.Format.read
  dsimp only
  split
  · refine ⟨⟨fun h => by simp [Ieee.Datum.isNaN] at h, fun h => by omega⟩, ⟨fun h => by simp [Ieee.Datum.isInfinity] at h, fun h => by omega⟩⟩
  · split
    · refine ⟨⟨fun h => by simp [Ieee.Datum.isNaN] at h, fun h => by omega⟩, ⟨fun h => by simp [Ieee.Datum.isInfinity] at h, fun h => by omega⟩⟩
    · split
      · refine ⟨⟨fun h => by simp [Ieee.Datum.isNaN] at h, fun h => by omega⟩, ⟨fun _ => by omega, fun _ => by simp [Ieee.Datum.isInfinity]⟩⟩
      · refine ⟨⟨fun _ => by omega, fun _ => by simp [Ieee.Datum.isNaN]⟩, ⟨fun h => by simp [Ieee.Datum.isInfinity] at h, fun h => by omega⟩⟩
theorem binade_inf (k : FloatKind) : k.format.binade ≤ k.format.infRung := by cases k <;> decide
theorem sw32 : FloatKind.f32.format.signWeight = 2147483648 := by decide
theorem sw64 : FloatKind.f64.format.signWeight = 9223372036854775808 := by decide
theorem inf32 : FloatKind.f32.format.infRung = 2139095040 := by decide
theorem inf64 : FloatKind.f64.format.infRung = 9218868437227405312 := by decide

theorem nanB_cut {k : FloatKind} {x y t : Nat} : nanB k ((Question.nanBits k x y).cut t) = true := by
  refine (read_cases _ (binade_inf k) _).1.2 ?_
  cases k
  · rw [sw32, inf32]
    show 2139095040 < ((t % 2) * 2147483648 + 2139095040 + 1 + (t / 2) % 8388607) % 2147483648
    have h2 := Nat.mod_lt (t / 2) (show 8388607 > 0 by omega)
    generalize (t / 2) % 8388607 = b at h2 ⊢
    rcases Nat.mod_two_eq_zero_or_one t with h | h <;> rw [h] <;> omega
  · rw [sw64, inf64]
    show 9218868437227405312 < ((t % 2) * 9223372036854775808 + 9218868437227405312 + 1 + (t / 2) % 4503599627370495) % 9223372036854775808
    have h2 := Nat.mod_lt (t / 2) (show 4503599627370495 > 0 by omega)
    generalize (t / 2) % 4503599627370495 = b at h2 ⊢
    rcases Nat.mod_two_eq_zero_or_one t with h | h <;> rw [h] <;> omega
theorem nanB_cutC {k : FloatKind} {x t : Nat} : nanB k ((Question.nanConv k x).cut t) = true := by cases k <;> exact nanB_cut (x := 0) (y := 0)

/-- The operation runs, in whatever world: its answer is the plain one, or a NaN where that is one; nothing turns but the count of draws. -/
theorem run_arith {P : Program} (w : World) {op : BinOp} (hop : op = .add ∨ op = .sub ∨ op = .mul ∨ op = .quo) (k : FloatKind) (x y : Nat) :
    ∃ r n, (Op.floatArith op k x y).run P w = .ok (.float k r) (w.drewN n) ∧ Alike k r (fl op k x y) := by
  cases hb : floatBits op k x y with
  | some z =>
    refine ⟨z, 0, run_floatArith w hb, ?_⟩
    unfold Ytomcbbpaajpeiaa.fl; rw [hb]; exact .refl _ _
  | none =>
    refine ⟨(Question.nanBits k x y).cut (w.tape w.drawn (Question.nanBits k x y)), 1, ?_, ?_⟩
    · unfold floatBits at hb
      rcases hop with rfl | rfl | rfl | rfl <;> simp only at hb <;> simp [Op.floatArith, hb, Question.forced, World.drew_is_drewN]
    · unfold Ytomcbbpaajpeiaa.fl; rw [hb]; exact .inr ⟨nanB_cut, nanB_qnan k⟩

end Go.Proofs.Ytomcbbpaajpeiaa
