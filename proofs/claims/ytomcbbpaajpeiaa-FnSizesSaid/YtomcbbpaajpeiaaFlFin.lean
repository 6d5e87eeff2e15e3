/-
  Floats: finite ones, told by what is left of x - x and by the greatest number. No condition.
-/
import Derived.Test.YtomcbbpaajpeiaaFlWide
namespace Go.Proofs.Ytomcbbpaajpeiaa
open Go

/-- Neither a NaN nor infinite. -/
def finB (x : Nat) : Bool := !nanB .f64 x && !(FloatKind.f64.format.read x).isInfinity
theorem Alike.fin {x y : Nat} (h : Alike .f64 x y) : finB x = finB y := by
  rcases h with rfl | ⟨a, b⟩
  · rfl
  · unfold finB; rw [a, b]; rfl

theorem less_self (x : Nat) : (FloatKind.f64.format.order (fl .sub .f64 x x) 0 == some .eq) = finB x := by
  unfold finB nanB fl floatBits
  dsimp only
  unfold Ieee.Format.sub
  cases hx : FloatKind.f64.format.read x with
  | nan s t => simp only [Ieee.Datum.sum, Option.map_none, Option.getD_none]; rfl
  | infinity s =>
    simp only [Ieee.Datum.sum, Ieee.Datum.opposite]
    cases s <;> rfl
  | number s m i =>
    have h0 : ∀ b : Int, Ieee.signed s m (i - b).toNat + Ieee.signed (!s) m (i - b).toNat = 0 := by
      intro b
      unfold Ieee.signed
      cases s <;> simp <;> omega
    simp only [Ieee.Datum.sum, Ieee.Datum.opposite, h0, Int.min_self]
    have : (s && !s) = false := by cases s <;> rfl
    simp only [if_true, this, Option.map_some, Option.getD_some, Int.natAbs_zero]
    have hw : FloatKind.f64.format.write (.number false 0 i) = 0 := by
      show FloatKind.f64.format.nearest false 0 i = 0
      unfold Ieee.Format.nearest
      rw [if_pos rfl]
      rfl
    rw [hw]
    rfl

/-- The greatest number that is finite, and the least. -/
def top64 : Nat := 9218868437227405311
def low64 : Nat := 18442240474082181119
theorem read_top : FloatKind.f64.format.read top64 = .number false 9007199254740991 971 := by decide
theorem read_low : FloatKind.f64.format.read low64 = .number true 9007199254740991 971 := by decide
theorem read64 {x : Nat} {s : Bool} {m : Nat} {e : Int} (h : FloatKind.f64.format.read x = .number s m e) : m < 9007199254740992 ∧ e ≤ 971 := by
  have hb : FloatKind.f64.format.binade = 4503599627370496 := by decide
  have hl : FloatKind.f64.format.leastPlace = -1074 := by decide
  unfold Ieee.Format.read at h
  rw [sw64, inf64, hb, hl] at h
  dsimp only at h
  split at h
  · cases h; omega
  · split at h
    · cases h; omega
    · split at h <;> cases h
theorem no_more {s : Bool} {m : Nat} {e : Int} (h : m < 9007199254740992) (he : e ≤ 971) :
    Ieee.signed s m (e - min e 971).toNat ≤ Ieee.signed false 9007199254740991 (971 - min e 971).toNat ∧ Ieee.signed true 9007199254740991 (971 - min e 971).toNat ≤ Ieee.signed s m (e - min e 971).toNat := by
  rw [show min e 971 = e by omega, show (e - e).toNat = 0 by omega]
  have h1 : 9007199254740991 ≤ 9007199254740991 <<< (971 - e).toNat := by
    rw [Nat.shiftLeft_eq]
    exact Nat.le_mul_of_pos_right _ (Nat.two_pow_pos _)
  have e0 : m <<< 0 = m := rfl
  unfold Ieee.signed
  rw [e0]
  generalize 9007199254740991 <<< (971 - e).toNat = q at h1 ⊢
  cases s <;> simp only [if_true, Bool.false_eq_true, if_false] <;> constructor <;> omega

theorem cmp_le {a b : Int} (h : a ≤ b) : (some (compare a b) == some Ordering.gt) = false := by
  show (some (compareOfLessAndEq a b) == some Ordering.gt) = false
  unfold compareOfLessAndEq
  split
  · rfl
  · rw [if_pos (by omega)]; rfl
theorem cmp_ge {a b : Int} (h : b ≤ a) : (some (compare a b) == some Ordering.lt) = false := by
  show (some (compareOfLessAndEq a b) == some Ordering.lt) = false
  unfold compareOfLessAndEq
  rw [if_neg (by omega)]
  split <;> rfl

theorem infB (x : Nat) : ((FloatKind.f64.format.order x top64 == some .gt) || (FloatKind.f64.format.order x low64 == some .lt)) = (FloatKind.f64.format.read x).isInfinity := by
  unfold Ieee.Format.order
  rw [read_top, read_low]
  cases hx : FloatKind.f64.format.read x with
  | nan s t => rfl
  | infinity s => cases s <;> rfl
  | number s m e =>
    obtain ⟨hm, he⟩ := read64 hx
    obtain ⟨h1, h2⟩ := no_more (s := s) hm he
    simp only [Ieee.Datum.order]
    rw [cmp_le h1, cmp_ge h2]
    rfl

end Go.Proofs.Ytomcbbpaajpeiaa
