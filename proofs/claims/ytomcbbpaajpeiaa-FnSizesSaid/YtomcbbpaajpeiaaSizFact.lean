/-
  What FnSizes asks, in plain numbers: a small number comes back from the great one; sums and products may be turned about; whole roots are zeros of what is made from them. No program here.
-/
import Derived.Test.YtomcbbpaajpeiaaQuoFact
import Derived.Test.YtomcbbpaajpeiaaFromPure
import Derived.Test.YtomcbbpaajpeiaaMCxPure
namespace Go.Proofs.Ytomcbbpaajpeiaa
open Go

/-! Turned about. -/
theorem product_comm (d e : Ieee.Datum) : d.product e = e.product d := by
  cases d <;> cases e <;> simp [Ieee.Datum.product, Bool.xor_comm, Nat.mul_comm, Int.add_comm]
theorem sum_comm (d e : Ieee.Datum) : d.sum e = e.sum d := by
  cases d with
  | nan s t => cases e <;> rfl
  | infinity s =>
    cases e with
    | nan => rfl
    | number => rfl
    | infinity t =>
      by_cases h : s = t
      · subst h; rfl
      · simp [Ieee.Datum.sum, h, Ne.symm h]
  | number s m i =>
    cases e with
    | nan => rfl
    | infinity => rfl
    | number t n j =>
      simp only [Ieee.Datum.sum]
      rw [Int.min_comm i j, Int.add_comm (Ieee.signed s m _), Bool.and_comm s t]
theorem fl_mul_comm (x y : Nat) : fl .mul .f64 x y = fl .mul .f64 y x := by
  unfold fl floatBits Ieee.Format.mul
  simp only
  rw [product_comm]
theorem fl_add_comm (x y : Nat) : fl .add .f64 x y = fl .add .f64 y x := by
  unfold fl floatBits Ieee.Format.add
  simp only
  rw [sum_comm]
theorem tRe_comm (a b c d : Nat) : tRe a b c d = tRe c d a b := by unfold tRe; rw [fl_mul_comm a c, fl_mul_comm b d]
theorem tIm_comm (a b c d : Nat) : tIm a b c d = tIm c d a b := by unfold tIm; rw [fl_mul_comm a d, fl_mul_comm b c, fl_add_comm]

/-! The small size back from the great one. -/
theorem f32_binade : FloatKind.f32.format.binade = 2 ^ FloatKind.f32.format.fractionBits := rfl
theorem f32_least : FloatKind.f32.format.leastPlace = -149 := by decide
theorem f32_bin : FloatKind.f32.format.binade = 8388608 := by decide
theorem read_zero32 (neg : Bool) : FloatKind.f32.format.read (FloatKind.f32.format.word neg 0) = .number neg 0 (-149) := by cases neg <;> decide
theorem read_inf64 (neg : Bool) : FloatKind.f64.format.read (FloatKind.f64.format.word neg FloatKind.f64.format.infRung) = .infinity neg := by cases neg <;> decide
theorem read_inf32 (neg : Bool) : FloatKind.f32.format.read (FloatKind.f32.format.word neg FloatKind.f32.format.infRung) = .infinity neg := by cases neg <;> decide
/-- The word of a small number in the great size, read. -/
theorem read_wide {s : Bool} {m : Nat} {e : Int} (hm : m < 2 ^ 24) (h1 : -149 ≤ e) (h2 : e ≤ 104) : ∃ k : Nat, FloatKind.f64.format.read (FloatKind.f64.format.nearest s m e) = .number s (m * 2 ^ k) (if m = 0 then -1074 else e - k) := by
  by_cases h0 : m = 0
  · subst h0
    refine ⟨0, ?_⟩
    have hz : FloatKind.f64.format.nearest s 0 e = FloatKind.f64.format.word s 0 := by
      unfold Ieee.Format.nearest
      rw [if_pos rfl]
    rw [hz, read_zero64]
    simp
  · have hpos : 0 < m := by omega
    have hlg : m.log2 ≤ 23 := by
      have := (Nat.log2_lt (by omega)).2 hm
      omega
    have hlast : lastP FloatKind.f64.format m e = e + m.log2 - 52 := by
      unfold lastP
      rw [f64_frac, f64_least]
      omega
    have hl0 : lastP FloatKind.f64.format m e ≤ e := by rw [hlast]; omega
    obtain ⟨k, hk⟩ : ∃ k : Nat, k = 52 - m.log2 := ⟨_, rfl⟩
    have hkt : (e - lastP FloatKind.f64.format m e).toNat = k := by rw [hlast]; omega
    have hK : m * 2 ^ k < 9007199254740992 := by
      have h3 : m * 2 ^ k < 2 ^ (m.log2 + 1) * 2 ^ k := Nat.mul_lt_mul_of_pos_right Nat.lt_log2_self (Nat.pow_pos (by omega))
      rw [← Nat.pow_add, show m.log2 + 1 + k = 53 by omega] at h3
      exact h3
    have e2 := read_nearest FloatKind.f64.format s hpos hl0 f64_binade (by decide) (by decide) (by
      rw [hkt, hlast, f64_least, f64_bin, inf64]
      have : (e + (m.log2 : Int) - 52 - -1074).toNat ≤ 1149 := by omega
      have := Nat.mul_le_mul_right 4503599627370496 this
      omega)
    refine ⟨k, ?_⟩
    rw [e2, hkt, if_neg h0]
    congr 1
    rw [hlast]; omega
/-- Such a word, in the small size again, stands for the same number. -/
theorem read_back {s : Bool} {m k : Nat} {e : Int} (h0 : 0 < m) (hm : m < 2 ^ 24) (h1 : -149 ≤ e) (h2 : e ≤ 104) : ∃ j : Nat, FloatKind.f32.format.read (FloatKind.f32.format.nearest s (m * 2 ^ k) (e - k)) = .number s (m * 2 ^ j) (e - j) := by
  have hlg : m.log2 ≤ 23 := by
    have := (Nat.log2_lt (by omega)).2 hm
    omega
  have hfr : (FloatKind.f32.format.fractionBits : Int) = 23 := rfl
  have hl0 : lastP FloatKind.f32.format m e ≤ e := by
    unfold lastP
    rw [hfr, f32_least]
    omega
  have hlo : lastP FloatKind.f32.format m e ≤ 104 ∧ -149 ≤ lastP FloatKind.f32.format m e ∧ e + m.log2 - 23 ≤ lastP FloatKind.f32.format m e := by
    unfold lastP
    rw [hfr, f32_least]
    omega
  obtain ⟨j, hj⟩ : ∃ j : Nat, (e - lastP FloatKind.f32.format m e).toNat = j := ⟨_, rfl⟩
  have hK : m * 2 ^ j < 16777216 := by
    have h3 : m * 2 ^ j < 2 ^ (m.log2 + 1) * 2 ^ j := Nat.mul_lt_mul_of_pos_right Nat.lt_log2_self (Nat.pow_pos (by omega))
    rw [← Nat.pow_add] at h3
    have h4 : (2 : Nat) ^ (m.log2 + 1 + j) ≤ 2 ^ 24 := Nat.pow_le_pow_right (by omega) (by omega)
    have h5 : (2 : Nat) ^ 24 = 16777216 := by decide
    omega
  have e2 := read_nearest FloatKind.f32.format s h0 hl0 f32_binade (by decide) (by decide) (by
    rw [hj, f32_least, f32_bin, inf32]
    have : (lastP FloatKind.f32.format m e - -149).toNat ≤ 253 := by omega
    have := Nat.mul_le_mul_right 8388608 this
    omega)
  rw [hj] at e2
  refine ⟨j, ?_⟩
  rw [nearest_more FloatKind.f32.format s h0 hl0 k, e2]
  congr 1
  omega
theorem order_same32 {z x : Nat} {s : Bool} {m j : Nat} {e : Int} (hz : FloatKind.f32.format.read z = .number s (m * 2 ^ j) (e - j)) (hx : FloatKind.f32.format.read x = .number s m e) : (FloatKind.f32.format.order z x == some .eq) = true := by
  unfold Ieee.Format.order
  rw [hz, hx]
  show (some (compare (Ieee.signed s (m * 2 ^ j) (e - j - min (e - j) e).toNat) (Ieee.signed s m (e - min (e - j) e).toNat)) == some .eq) = true
  have e1 : min (e - (j : Int)) e = e - j := by omega
  rw [e1, show (e - j - (e - j)).toNat = 0 by omega, show (e - (e - (j : Int))).toNat = j by omega, signed_is, signed_is]
  have : (if s then -((m * 2 ^ j : Nat) : Int) else ((m * 2 ^ j : Nat) : Int)) * 2 ^ 0 = (if s then -(m : Int) else (m : Int)) * 2 ^ j := by
    rw [Int.natCast_mul, Int.natCast_pow]
    cases s
    · simp
    · simp [Int.neg_mul]
  rw [this]
  simp [Std.ReflCmp.compare_self]
/-- From the great size to the small one: some number, the one that it was where it was one. -/
theorem run_narrow {P : Program} (w : World) {x y : Nat} (h : Alike .f64 y (wide x)) : ∃ z n, (Conv.floatToFloat .f64 y .f32).run P w = .ok (.float .f32 z) (w.drewN n) ∧ (nanB .f32 x = false → (FloatKind.f32.format.order z x == some .eq) = true) := by
  have hne : ¬ FloatKind.f64 = FloatKind.f32 := by decide
  cases hx : FloatKind.f32.format.read x with
  | nan s t =>
    have hn : nanB .f32 x = true := by unfold nanB; rw [hx]; rfl
    have hy : (FloatKind.f64.decode y).isNaN = true := by
      have : nanB .f64 (wide x) = true := by unfold wide; rw [wideBits_nan hn]; exact nanB_qnan _
      rw [← h.nan] at this
      exact this
    cases hd : FloatKind.f64.decode y with
    | nan s t =>
      refine ⟨(Question.nanConv .f32 y).cut (w.tape w.drawn (Question.nanConv .f32 y)), 1, ?_, fun q => by rw [hn] at q; cases q⟩
      simp [Conv.floatToFloat, hne, hd, Question.forced, World.drew_is_drewN]
    | infinity s => rw [hd] at hy; cases hy
    | number s m e => rw [hd] at hy; cases hy
  | infinity s =>
    have hw : wide x = FloatKind.f64.format.word s FloatKind.f64.format.infRung := by
      unfold wide floatToFloatBits
      rw [if_neg (by decide), show FloatKind.f32.decode x = .infinity s from hx]
      rfl
    have hr : FloatKind.f64.decode (wide x) = .infinity s := by rw [hw]; exact read_inf64 s
    have hy : y = wide x := by
      rcases h with h | ⟨_, h⟩
      · exact h
      · unfold nanB at h; rw [show FloatKind.f64.format.read (wide x) = .infinity s from hr] at h; cases h
    refine ⟨FloatKind.f32.encode (.infinity s), 0, by rw [hy]; simp [Conv.floatToFloat, hne, hr]; rfl, fun _ => ?_⟩
    unfold Ieee.Format.order
    rw [hx, show FloatKind.f32.format.read (FloatKind.f32.encode (.infinity s)) = .infinity s from read_inf32 s]
    simp [Ieee.Datum.order, Std.ReflCmp.compare_self]
  | number s m e =>
    obtain ⟨hm, h1, h2⟩ := read32 hx
    obtain ⟨k, hk⟩ := read_wide (s := s) hm h1 h2
    have hw : wide x = FloatKind.f64.format.nearest s m e := by
      unfold wide floatToFloatBits
      rw [if_neg (by decide), show FloatKind.f32.decode x = .number s m e from hx]
      simp only [wide_fin hx]
      rfl
    have hy : y = wide x := by
      rcases h with h | ⟨_, h⟩
      · exact h
      · unfold nanB at h; rw [hw, hk] at h; cases h
    by_cases h0 : m = 0
    · subst h0
      rw [if_pos rfl, Nat.zero_mul] at hk
      have hz : FloatKind.f32.encode (.number s 0 (-1074)) = FloatKind.f32.format.word s 0 := by
        show FloatKind.f32.format.nearest s 0 (-1074) = _
        unfold Ieee.Format.nearest
        rw [if_pos rfl]
      have hr : FloatKind.f32.decode (FloatKind.f32.encode (.number s 0 (-1074))) = .number s 0 (-149) := by rw [hz]; exact read_zero32 s
      have hd : FloatKind.f64.decode y = .number s 0 (-1074) := by rw [hy, hw]; exact hk
      refine ⟨FloatKind.f32.encode (.number s 0 (-1074)), 0, ?_, fun _ => ?_⟩
      · simp [Conv.floatToFloat, hne, hd, hr, Ieee.Datum.isInfinity]; rfl
      · unfold Ieee.Format.order
        rw [hx, show FloatKind.f32.format.read (FloatKind.f32.encode (.number s 0 (-1074))) = .number s 0 (-149) from hr]
        simp only [Ieee.Datum.order, signed_is]
        cases s <;> simp [Std.ReflCmp.compare_self]
    · rw [if_neg h0] at hk
      obtain ⟨j, hj⟩ := read_back (s := s) (k := k) (by omega) hm h1 h2
      have hd : FloatKind.f64.decode y = .number s (m * 2 ^ k) (e - k) := by rw [hy, hw]; exact hk
      have hr : FloatKind.f32.decode (FloatKind.f32.encode (.number s (m * 2 ^ k) (e - k))) = .number s (m * 2 ^ j) (e - j) := hj
      refine ⟨FloatKind.f32.encode (.number s (m * 2 ^ k) (e - k)), 0, ?_, fun _ => order_same32 hr hx⟩
      simp [Conv.floatToFloat, hne, hd, hr, Ieee.Datum.isInfinity]; rfl

end Go.Proofs.Ytomcbbpaajpeiaa
