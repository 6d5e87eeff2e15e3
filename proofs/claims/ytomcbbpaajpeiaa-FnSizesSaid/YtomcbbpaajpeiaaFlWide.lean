/-
  Floats: how they are held against each other; the small size in the great one, which is never too great. No condition.
-/
import Derived.Test.YtomcbbpaajpeiaaFl
namespace Go.Proofs.Ytomcbbpaajpeiaa
open Go

theorem order_self {k : FloatKind} {x : Nat} (h : nanB k x = false) : k.format.order x x = some .eq := by
  unfold nanB at h
  unfold Ieee.Format.order
  cases hx : k.format.read x with
  | nan s t => simp [hx, Ieee.Datum.isNaN] at h
  | infinity s => simp [Ieee.Datum.order, Std.ReflCmp.compare_self]
  | number s m i => simp [Ieee.Datum.order, Std.ReflCmp.compare_self]
theorem order_nan {k : FloatKind} {x y : Nat} (h : nanB k x = true ∨ nanB k y = true) : k.format.order x y = none := by
  unfold nanB at h
  unfold Ieee.Format.order
  cases hx : k.format.read x <;> cases hy : k.format.read y <;> simp [hx, hy, Ieee.Datum.isNaN] at h <;> simp [Ieee.Datum.order]
theorem order_self_eq (k : FloatKind) (x : Nat) : (k.format.order x x == some .eq) = !nanB k x := by
  cases h : nanB k x with
  | false => rw [order_self h]; rfl
  | true => rw [order_nan (.inl h)]; rfl
theorem order_self_ne (k : FloatKind) (x : Nat) : (k.format.order x x != some .eq) = nanB k x := by
  rw [bne, order_self_eq, Bool.not_not]
theorem Alike.order {k : FloatKind} {x y x' y' : Nat} (hx : Alike k x x') (hy : Alike k y y') : k.format.order x y = k.format.order x' y' := by
  by_cases hn : nanB k x = true ∨ nanB k y = true
  · rw [order_nan hn, order_nan (by rw [← hx.nan, ← hy.nan]; exact hn)]
  · rcases hx with rfl | ⟨a, _⟩
    · rcases hy with rfl | ⟨b, _⟩
      · rfl
      · exact absurd (.inr b) hn
    · exact absurd (.inl a) hn

/-- A number of the small size has a place in the great one. -/
theorem read32 {x : Nat} {s : Bool} {m : Nat} {e : Int} (h : FloatKind.f32.format.read x = .number s m e) : m < 2 ^ 24 ∧ -149 ≤ e ∧ e ≤ 104 := by
  have hb : FloatKind.f32.format.binade = 8388608 := by decide
  have hl : FloatKind.f32.format.leastPlace = -149 := by decide
  unfold Ieee.Format.read at h
  rw [sw32, inf32, hb, hl] at h
  dsimp only at h
  split at h
  · cases h; omega
  · split at h
    · cases h; omega
    · split at h <;> cases h
theorem rung_fits {n q : Nat} (hk : n < 9007199254740992) (h3 : q ≤ 1149) : min (q * 4503599627370496 + n) 9218868437227405312 < 9218868437227405312 := by
  refine Nat.lt_of_le_of_lt (Nat.min_le_left _ _) ?_
  omega
theorem wide_fin {x : Nat} {s : Bool} {m : Nat} {e : Int} (h : FloatKind.f32.decode x = .number s m e) : (FloatKind.f64.decode (FloatKind.f64.encode (.number s m e))).isInfinity = false := by
  obtain ⟨hm, he1, he2⟩ := read32 h
  have key : ∀ r, r < FloatKind.f64.format.infRung → (FloatKind.f64.decode (FloatKind.f64.format.word s r)).isInfinity = false := by
    intro r hr
    refine Bool.eq_false_iff.2 fun hc => ?_
    have := (read_cases _ (binade_inf .f64) _).2.1 hc
    rw [sw64, inf64] at this
    rw [inf64] at hr
    unfold Ieee.Format.word at this
    rw [sw64] at this
    split at this <;> omega
  show (FloatKind.f64.decode (FloatKind.f64.format.nearest s m e)).isInfinity = false
  unfold Ieee.Format.nearest
  split
  · exact key 0 (by rw [inf64]; omega)
  · rename_i hm0
    have hlog : m.log2 < 24 := (Nat.log2_lt hm0).2 hm
    have hlt : m < 2 ^ (m.log2 + 1) := Nat.lt_log2_self
    have hfb : FloatKind.f64.format.fractionBits = 52 := rfl
    have hlp : FloatKind.f64.format.leastPlace = -1074 := by decide
    have hbn : FloatKind.f64.format.binade = 4503599627370496 := by decide
    dsimp only
    refine key _ ?_
    rw [hfb, hlp, hbn]
    have hlast : max (e + (m.log2 : Int) - (52 : Nat)) (-1074) = e + (m.log2 : Int) - 52 := by omega
    rw [hlast]
    have h1 : (e - (e + (m.log2 : Int) - 52)).toNat = 52 - m.log2 := by omega
    have h2 : (e + (m.log2 : Int) - 52 - e).toNat = 0 := by omega
    have h3 : (e + (m.log2 : Int) - 52 - -1074).toNat ≤ 1149 := by omega
    rw [h1, h2]
    have hk : m <<< (52 - m.log2) < 9007199254740992 := by
      rw [Nat.shiftLeft_eq]
      have : 9007199254740992 = 2 ^ (m.log2 + 1) * 2 ^ (52 - m.log2) := by rw [← Nat.pow_add, show m.log2 + 1 + (52 - m.log2) = 53 by omega]
      rw [this]
      exact Nat.mul_lt_mul_of_pos_right hlt (Nat.two_pow_pos _)
    generalize m <<< (52 - m.log2) = n at hk ⊢
    have hcut : Ieee.Toward.even.cut s n 0 = n := by
      unfold Ieee.Toward.cut
      simp [Nat.mod_one]
    rw [hcut, inf64]
    generalize (e + (m.log2 : Int) - 52 - -1074).toNat = q at h3 ⊢
    exact rung_fits hk h3

/-- The small size in the great one, all NaNs told as one. -/
def wide (x : Nat) : Nat := (floatToFloatBits .f32 x .f64).getD (qnan .f64)
theorem wideBits_none {x : Nat} (h : floatToFloatBits .f32 x .f64 = none) : nanB .f32 x = true := by
  unfold floatToFloatBits at h
  rw [if_neg (by decide)] at h
  show (FloatKind.f32.decode x).isNaN = true
  cases hx : FloatKind.f32.decode x with
  | nan s t => rfl
  | infinity s => simp [hx] at h
  | number s m e => simp only [hx, wide_fin hx] at h; simp at h
theorem wideBits_nan {x : Nat} (hn : nanB .f32 x = true) : floatToFloatBits .f32 x .f64 = none := by
  unfold floatToFloatBits
  rw [if_neg (by decide)]
  have hn : (FloatKind.f32.decode x).isNaN = true := hn
  cases hx : FloatKind.f32.decode x with
  | nan s t => rfl
  | infinity s => simp [hx, Ieee.Datum.isNaN] at hn
  | number s m e => simp [hx, Ieee.Datum.isNaN] at hn
theorem Alike.wide {x y : Nat} (h : Alike .f32 x y) : Ytomcbbpaajpeiaa.wide x = Ytomcbbpaajpeiaa.wide y := by
  rcases h with rfl | ⟨a, b⟩
  · rfl
  · unfold Ytomcbbpaajpeiaa.wide; rw [wideBits_nan a, wideBits_nan b]
theorem run_widen {P : Program} (w : World) (x : Nat) : ∃ r n, (Conv.floatToFloat .f32 x .f64).run P w = .ok (.float .f64 r) (w.drewN n) ∧ Alike .f64 r (wide x) := by
  cases hb : floatToFloatBits .f32 x .f64 with
  | some z =>
    refine ⟨z, 0, run_floatToFloat w hb, ?_⟩
    unfold Ytomcbbpaajpeiaa.wide; rw [hb]; exact .refl _ _
  | none =>
    refine ⟨(Question.nanConv .f64 x).cut (w.tape w.drawn (Question.nanConv .f64 x)), 1, ?_, ?_⟩
    · have hn : (FloatKind.f32.decode x).isNaN = true := wideBits_none hb
      cases hx : FloatKind.f32.decode x with
      | nan s t => simp [Conv.floatToFloat, hx, Question.forced, World.drew_is_drewN]
      | infinity s => simp [hx, Ieee.Datum.isNaN] at hn
      | number s m e => simp [hx, Ieee.Datum.isNaN] at hn
    · unfold Ytomcbbpaajpeiaa.wide; rw [hb]; exact .inr ⟨nanB_cutC, nanB_qnan _⟩

end Go.Proofs.Ytomcbbpaajpeiaa
