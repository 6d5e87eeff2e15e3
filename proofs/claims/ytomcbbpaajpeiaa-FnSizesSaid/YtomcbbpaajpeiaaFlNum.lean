/-
  Floats that stand for whole numbers: sums, differences, products and quotients that come out even are exact. Plain numbers, no program.
-/
import Derived.Test.YtomcbbpaajpeiaaFlFin
import Derived.Test.YtomcbbpaajpeiaaMarkPureC
namespace Go.Proofs.Ytomcbbpaajpeiaa
open Go

theorem log2_shift {m : Nat} (h : 0 < m) : ∀ k, (m * 2 ^ k).log2 = m.log2 + k
  | 0 => by simp
  | k + 1 => by
    have hp : 0 < 2 ^ k := Nat.pow_pos (by omega)
    have h1 : m * 2 ^ (k + 1) = 2 * (m * 2 ^ k) := by rw [Nat.pow_succ, Nat.mul_comm (2 ^ k) 2, ← Nat.mul_assoc, Nat.mul_comm m 2, Nat.mul_assoc]
    have h2 : m * 2 ^ k ≠ 0 := by have := Nat.mul_pos h hp; omega
    rw [h1, Nat.log2_two_mul h2, log2_shift h k]
    omega
/-- The place of the last digit that is kept. -/
def lastP (f : Ieee.Format) (m : Nat) (p : Int) : Int := max (p + m.log2 - f.fractionBits) f.leastPlace
theorem nearest_is (f : Ieee.Format) (neg : Bool) {m : Nat} (p : Int) (h : 0 < m) :
    f.nearest neg m p = f.word neg (min ((lastP f m p - f.leastPlace).toNat * f.binade + Ieee.Toward.even.cut neg (m <<< (p - lastP f m p).toNat) (lastP f m p - p).toNat) f.infRung) := by
  unfold Ieee.Format.nearest
  rw [if_neg (by omega)]
  rfl
theorem cut_zero (neg : Bool) (n : Nat) : Ieee.Toward.even.cut neg n 0 = n := by
  have h : 1 <<< min 0 (n.log2 + 2) = 1 := by simp
  unfold Ieee.Toward.cut
  simp only [h, Nat.div_one, Nat.mod_one]
  simp
/-- What is cut off is nought. -/
theorem cut_even (neg : Bool) {m d k : Nat} (h : 0 < m) (hd : d ≤ k) : Ieee.Toward.even.cut neg (m * 2 ^ k) d = m * 2 ^ (k - d) := by
  have hl := log2_shift h k
  have hmin : min d ((m * 2 ^ k).log2 + 2) = d := by omega
  have hg : 1 <<< min d ((m * 2 ^ k).log2 + 2) = 2 ^ d := by rw [hmin, Nat.one_shiftLeft]
  have he : m * 2 ^ k = m * 2 ^ (k - d) * 2 ^ d := by rw [Nat.mul_assoc, ← Nat.pow_add, show k - d + d = k by omega]
  have hp : 0 < 2 ^ d := Nat.pow_pos (by omega)
  unfold Ieee.Toward.cut
  simp only [hg]
  rw [he, Nat.mul_div_cancel _ hp, Nat.mul_mod_left]
  have h1 : decide (2 ^ d < 2 * 0) = false := by simp
  have h2 : (2 ^ d == 2 * 0) = false := by simp
  rw [h1, h2]
  simp
/-- A number told by more digits behind the point is written as itself. -/
theorem nearest_more (f : Ieee.Format) (neg : Bool) {m : Nat} {p : Int} (h : 0 < m) (hl : lastP f m p ≤ p) (k : Nat) : f.nearest neg (m * 2 ^ k) (p - k) = f.nearest neg m p := by
  have hp : 0 < 2 ^ k := Nat.pow_pos (by omega)
  have hL : lastP f (m * 2 ^ k) (p - k) = lastP f m p := by
    unfold lastP
    rw [log2_shift h k]
    congr 1
    omega
  rw [nearest_is f neg (p - k) (Nat.mul_pos h hp), nearest_is f neg p h, hL]
  generalize lastP f m p = L at *
  congr 2
  congr 1
  have e0 : (L - p).toNat = 0 := by omega
  rw [e0, cut_zero]
  rcases Int.le_total L (p - k) with c | c
  · have e1 : (L - (p - k)).toNat = 0 := by omega
    rw [e1, cut_zero, Nat.shiftLeft_eq, Nat.shiftLeft_eq, Nat.mul_assoc, ← Nat.pow_add]
    congr 2
    omega
  · have e1 : (p - k - L).toNat = 0 := by omega
    rw [e1, Nat.shiftLeft_zero, cut_even neg h (by omega), Nat.shiftLeft_eq]
    congr 2
    omega
/-- A number that has its place in the format is read back as itself. -/
theorem read_nearest (f : Ieee.Format) (neg : Bool) {m : Nat} {p : Int} (h : 0 < m) (hl : lastP f m p ≤ p) (hb : f.binade = 2 ^ f.fractionBits) (hs : f.infRung ≤ f.signWeight) (hsw : 0 < f.signWeight)
    (hf : (lastP f m p - f.leastPlace).toNat * f.binade + m * 2 ^ (p - lastP f m p).toNat < f.infRung) :
    f.read (f.nearest neg m p) = .number neg (m * 2 ^ (p - lastP f m p).toNat) (lastP f m p) := by
  rw [nearest_is f neg p h]
  have e0 : (lastP f m p - p).toNat = 0 := by omega
  rw [e0, cut_zero, Nat.shiftLeft_eq]
  have hLl : f.leastPlace ≤ lastP f m p := by unfold lastP; omega
  have hlo : f.leastPlace < lastP f m p → f.binade ≤ m * 2 ^ (p - lastP f m p).toNat := by
    intro hc
    have hle : lastP f m p = p + m.log2 - f.fractionBits := by unfold lastP at hc ⊢; omega
    have h1 : (p - lastP f m p).toNat + m.log2 = f.fractionBits := by omega
    rw [hb, ← h1, Nat.pow_add, Nat.mul_comm]
    exact Nat.mul_le_mul_right _ (Nat.log2_self_le (by omega))
  have hhi : m * 2 ^ (p - lastP f m p).toNat < 2 * f.binade := by
    have h1 : (p - lastP f m p).toNat + m.log2 ≤ f.fractionBits := by
      have : p + m.log2 - f.fractionBits ≤ lastP f m p := by unfold lastP; omega
      omega
    have h2 : m < 2 ^ (m.log2 + 1) := Nat.lt_log2_self
    have hp : 0 < 2 ^ (p - lastP f m p).toNat := Nat.pow_pos (by omega)
    have h3 : m * 2 ^ (p - lastP f m p).toNat < 2 ^ (m.log2 + 1) * 2 ^ (p - lastP f m p).toNat := Nat.mul_lt_mul_of_pos_right h2 hp
    have h4 : 2 ^ (m.log2 + 1) * 2 ^ (p - lastP f m p).toNat ≤ 2 * f.binade := by
      rw [← Nat.pow_add, hb, ← Nat.pow_succ']
      exact Nat.pow_le_pow_right (by omega) (by omega)
    omega
  generalize m * 2 ^ (p - lastP f m p).toNat = K at *
  generalize hLq : lastP f m p = L at *
  obtain ⟨q, hq⟩ : ∃ q : Nat, L - f.leastPlace = (q : Int) := ⟨(L - f.leastPlace).toNat, by omega⟩
  have hq' : (L - f.leastPlace).toNat = q := by omega
  rw [hq'] at hf ⊢
  have hmin : min (q * f.binade + K) f.infRung = q * f.binade + K := by omega
  rw [hmin]
  generalize hR : q * f.binade + K = R at *
  have hword : f.word neg R / f.signWeight % 2 = (if neg then 1 else 0) ∧ f.word neg R % f.signWeight = R := by
    unfold Ieee.Format.word
    cases neg
    · simp only [Bool.false_eq_true, if_false]
      exact ⟨by rw [Nat.div_eq_of_lt (by omega)], Nat.mod_eq_of_lt (by omega)⟩
    · simp only [if_true]
      refine ⟨?_, ?_⟩
      · rw [Nat.add_div_left _ hsw, Nat.div_eq_of_lt (by omega)]
      · rw [Nat.add_mod_left, Nat.mod_eq_of_lt (by omega)]
  unfold Ieee.Format.read
  dsimp only
  rw [hword.1, hword.2]
  have hneg : ((if neg then 1 else 0 : Nat) == 1) = neg := by cases neg <;> rfl
  rw [hneg]
  have hbp : 0 < f.binade := by rw [hb]; exact Nat.pow_pos (by omega)
  by_cases hlow : R < f.binade
  · have hq0 : q = 0 := by
      rcases Nat.eq_zero_or_pos q with z | z
      · exact z
      · have := Nat.mul_le_mul_right f.binade z; omega
    rw [if_pos hlow]
    subst hq0
    have hK : R = K := by omega
    rw [hK]
    congr 1
    omega
  · rw [if_neg hlow, if_pos hf]
    by_cases hc : K < f.binade
    · exfalso
      have hq1 : q = 0 := by
        rcases Nat.eq_zero_or_pos q with z | z
        · exact z
        · have := hlo (by omega); omega
      subst hq1
      omega
    · have hdiv : R / f.binade = q + 1 := by
        rw [← hR, Nat.mul_comm q, Nat.mul_add_div hbp]
        have : K / f.binade = 1 := by
          apply Nat.div_eq_of_lt_le
          · omega
          · omega
        rw [this]
      have hmod : R % f.binade = K - f.binade := by
        rw [← hR, Nat.mul_comm q, Nat.mul_add_mod, Nat.mod_eq_sub_mod (by omega), Nat.mod_eq_of_lt (by omega)]
      rw [hdiv, hmod]
      congr 1
      · omega
      · omega

/-! Whole numbers in the great size. -/
/-- The datum stands for the whole number n. -/
def Dv (d : Ieee.Datum) (n : Int) : Prop := ∃ s m p, d = .number s m p ∧ p ≤ 0 ∧ (if s then -(m : Int) else (m : Int)) = n * (2 : Int) ^ (-p).toNat
/-- The word stands for the whole number n. -/
def Iv (x : Nat) (n : Int) : Prop := Dv (FloatKind.f64.format.read x) n
theorem f64_binade : FloatKind.f64.format.binade = 2 ^ FloatKind.f64.format.fractionBits := rfl
theorem f64_frac : FloatKind.f64.format.fractionBits = 52 := rfl
theorem f64_least : FloatKind.f64.format.leastPlace = -1074 := by decide
theorem f64_bin : FloatKind.f64.format.binade = 4503599627370496 := by decide
theorem read_zero64 (neg : Bool) : FloatKind.f64.format.read (FloatKind.f64.format.word neg 0) = .number neg 0 (-1074) := by cases neg <;> decide
/-- What stands for a whole number below 2^53 is written as it. -/
theorem Dv.write {d : Ieee.Datum} {n : Int} (h : Dv d n) (hn : n.natAbs < 2 ^ 53) : Iv (FloatKind.f64.format.write d) n := by
  obtain ⟨s, m, p, rfl, hp, hv⟩ := h
  obtain ⟨k, hk⟩ : ∃ k : Nat, p = -(k : Int) := ⟨(-p).toNat, by omega⟩
  have hkt : (-p).toNat = k := by omega
  rw [hkt] at hv
  have hm : m = n.natAbs * 2 ^ k := by
    have h1 : (if s then -(m : Int) else (m : Int)).natAbs = m := by cases s <;> simp
    rw [← h1, hv, Int.natAbs_mul, Int.natAbs_pow]
    rfl
  show Dv (FloatKind.f64.format.read (FloatKind.f64.format.nearest s m p)) n
  by_cases h0 : n = 0
  · subst h0
    have hm0 : m = 0 := by rw [hm]; simp
    have hz : FloatKind.f64.format.nearest s m p = FloatKind.f64.format.word s 0 := by
      unfold Ieee.Format.nearest
      rw [if_pos hm0]
    rw [hz, read_zero64]
    exact ⟨s, 0, -1074, rfl, by omega, by rw [Int.zero_mul]; cases s <;> rfl⟩
  · have hpos : 0 < n.natAbs := by omega
    have hlg : n.natAbs.log2 ≤ 52 := by
      have := (Nat.log2_lt (by omega)).2 hn
      omega
    have hlast : lastP FloatKind.f64.format n.natAbs 0 = (n.natAbs.log2 : Int) - 52 := by
      unfold lastP
      rw [f64_frac, f64_least]
      omega
    have hl0 : lastP FloatKind.f64.format n.natAbs 0 ≤ 0 := by rw [hlast]; omega
    have e1 : FloatKind.f64.format.nearest s m p = FloatKind.f64.format.nearest s n.natAbs 0 := by
      rw [hm, hk, ← Int.zero_sub]
      exact nearest_more _ s hpos hl0 k
    have hK : n.natAbs * 2 ^ (0 - lastP FloatKind.f64.format n.natAbs 0).toNat < 9007199254740992 := by
      rw [hlast]
      have h2 : n.natAbs < 2 ^ (n.natAbs.log2 + 1) := Nat.lt_log2_self
      have h3 : n.natAbs * 2 ^ (52 - n.natAbs.log2) < 2 ^ (n.natAbs.log2 + 1) * 2 ^ (52 - n.natAbs.log2) := Nat.mul_lt_mul_of_pos_right h2 (Nat.pow_pos (by omega))
      rw [← Nat.pow_add, show n.natAbs.log2 + 1 + (52 - n.natAbs.log2) = 53 by omega] at h3
      rw [show (0 - ((n.natAbs.log2 : Int) - 52)).toNat = 52 - n.natAbs.log2 by omega]
      exact h3
    have e2 := read_nearest FloatKind.f64.format s hpos hl0 f64_binade (by decide) (by decide) (by
      rw [hlast, f64_least, f64_bin, inf64]
      rw [hlast] at hK
      have : ((n.natAbs.log2 : Int) - 52 - -1074).toNat ≤ 1074 := by omega
      have := Nat.mul_le_mul_right 4503599627370496 this
      omega)
    rw [e1, e2]
    refine ⟨s, _, _, rfl, hl0, ?_⟩
    have hsn : (if s then -((n.natAbs : Nat) : Int) else ((n.natAbs : Nat) : Int)) = n := by
      have hq : (0 : Int) < 2 ^ k := Int.pow_pos (by omega)
      rw [hm] at hv
      cases s
      · simp only [Bool.false_eq_true, if_false] at hv ⊢
        rw [Int.natCast_mul, Int.natCast_pow] at hv
        exact Int.eq_of_mul_eq_mul_right (a := 2 ^ k) (Int.ne_of_gt hq) hv
      · simp only [if_true] at hv ⊢
        rw [Int.natCast_mul, Int.natCast_pow, ← Int.neg_mul] at hv
        exact Int.eq_of_mul_eq_mul_right (a := 2 ^ k) (Int.ne_of_gt hq) hv
    rw [show (0 - lastP FloatKind.f64.format n.natAbs 0) = -lastP FloatKind.f64.format n.natAbs 0 by omega]
    generalize (-lastP FloatKind.f64.format n.natAbs 0).toNat = t
    cases s
    · simp only [Bool.false_eq_true, if_false] at hsn ⊢
      rw [Int.natCast_mul, Int.natCast_pow, hsn]
      rfl
    · simp only [if_true] at hsn ⊢
      rw [Int.natCast_mul, Int.natCast_pow, ← Int.neg_mul, hsn]
      rfl
theorem iv_fint {n : Int} (h : n.natAbs < 2 ^ 53) : Iv (fint n) n := by
  refine Dv.write (d := .number (decide (n < 0)) n.natAbs 0) ⟨_, _, _, rfl, by omega, ?_⟩ h
  by_cases c : n < 0
  · simp only [c, decide_true, if_true]
    simp
    omega
  · simp only [c, decide_false, Bool.false_eq_true, if_false]
    simp
    omega
theorem signed_is (s : Bool) (m k : Nat) : Ieee.signed s m k = (if s then -(m : Int) else (m : Int)) * 2 ^ k := by
  unfold Ieee.signed
  cases s
  · simp only [Bool.false_eq_true, if_false]
    rw [Nat.shiftLeft_eq, Int.natCast_mul, Int.natCast_pow]
    rfl
  · simp only [if_true]
    rw [Nat.shiftLeft_eq, Int.natCast_mul, Int.natCast_pow, Int.neg_mul]
    rfl
theorem scale {p b n v : Int} (hp : p ≤ 0) (hb : b ≤ p) (h : v = n * 2 ^ (-p).toNat) : v * 2 ^ (p - b).toNat = n * 2 ^ (-b).toNat := by
  rw [h, Int.mul_assoc, ← Int.pow_add]
  congr 2
  omega
theorem Dv.sum {d e : Ieee.Datum} {a b : Int} (h : Dv d a) (k : Dv e b) : ∃ r, d.sum e = some r ∧ Dv r (a + b) := by
  obtain ⟨s, m, p, rfl, hp, hv⟩ := h
  obtain ⟨t, n, q, rfl, hq, hw⟩ := k
  refine ⟨_, rfl, ?_⟩
  have e1 : Ieee.signed s m (p - min p q).toNat = a * 2 ^ (-min p q).toNat := by rw [signed_is]; exact scale hp (by omega) hv
  have e2 : Ieee.signed t n (q - min p q).toNat = b * 2 ^ (-min p q).toNat := by rw [signed_is]; exact scale hq (by omega) hw
  rw [e1, e2, ← Int.add_mul]
  refine ⟨_, _, _, rfl, by omega, ?_⟩
  generalize (a + b) * 2 ^ (-min p q).toNat = z
  by_cases hz : z = 0
  · subst hz; simp
  · rw [if_neg hz]
    by_cases c : z < 0
    · simp only [c, decide_true, if_true]; omega
    · simp only [c, decide_false, Bool.false_eq_true, if_false]; omega
theorem Dv.opposite {d : Ieee.Datum} {a : Int} (h : Dv d a) : Dv d.opposite (-a) := by
  obtain ⟨s, m, p, rfl, hp, hv⟩ := h
  refine ⟨!s, m, p, rfl, hp, ?_⟩
  rw [Int.neg_mul, ← hv]
  cases s <;> simp
theorem Dv.product {d e : Ieee.Datum} {a b : Int} (h : Dv d a) (k : Dv e b) : ∃ r, d.product e = some r ∧ Dv r (a * b) := by
  obtain ⟨s, m, p, rfl, hp, hv⟩ := h
  obtain ⟨t, n, q, rfl, hq, hw⟩ := k
  refine ⟨_, rfl, _, _, _, rfl, by omega, ?_⟩
  have e : (if (s ^^ t) then -((m * n : Nat) : Int) else ((m * n : Nat) : Int)) = (if s then -(m : Int) else (m : Int)) * (if t then -(n : Int) else (n : Int)) := by
    cases s <;> cases t <;> simp [Int.natCast_mul, Int.neg_mul, Int.mul_neg]
  rw [e, hv, hw, show (-(p + q)).toNat = (-p).toNat + (-q).toNat by omega, Int.pow_add]
  simp only [Int.mul_assoc, Int.mul_left_comm]
theorem iv_add {x y : Nat} {a b : Int} (h : Iv x a) (k : Iv y b) (hn : (a + b).natAbs < 2 ^ 53) : Iv (fl .add .f64 x y) (a + b) := by
  obtain ⟨r, e, hr⟩ := Dv.sum h k
  have : fl .add .f64 x y = FloatKind.f64.format.write r := by
    unfold fl floatBits Ieee.Format.add
    simp only
    rw [e]; rfl
  rw [this]
  exact hr.write hn
theorem iv_sub {x y : Nat} {a b : Int} (h : Iv x a) (k : Iv y b) (hn : (a - b).natAbs < 2 ^ 53) : Iv (fl .sub .f64 x y) (a - b) := by
  obtain ⟨r, e, hr⟩ := Dv.sum h (Dv.opposite k)
  have : fl .sub .f64 x y = FloatKind.f64.format.write r := by
    unfold fl floatBits Ieee.Format.sub
    simp only
    rw [e]; rfl
  rw [this, Int.sub_eq_add_neg]
  exact hr.write (by rw [← Int.sub_eq_add_neg]; exact hn)
theorem iv_mul {x y : Nat} {a b : Int} (h : Iv x a) (k : Iv y b) (hn : (a * b).natAbs < 2 ^ 53) : Iv (fl .mul .f64 x y) (a * b) := by
  obtain ⟨r, e, hr⟩ := Dv.product h k
  have : fl .mul .f64 x y = FloatKind.f64.format.write r := by
    unfold fl floatBits Ieee.Format.mul
    simp only
    rw [e]; rfl
  rw [this]
  exact hr.write hn
theorem iv_order {x y : Nat} {a b : Int} (h : Iv x a) (k : Iv y b) : FloatKind.f64.format.order x y = some (compare a b) := by
  obtain ⟨s, m, p, e1, hp, hv⟩ := h
  obtain ⟨t, n, q, e2, hq, hw⟩ := k
  unfold Ieee.Format.order
  rw [e1, e2]
  show some (compare (Ieee.signed s m (p - min p q).toNat) (Ieee.signed t n (q - min p q).toNat)) = _
  have e1 : Ieee.signed s m (p - min p q).toNat = a * 2 ^ (-min p q).toNat := by rw [signed_is]; exact scale hp (by omega) hv
  have e2 : Ieee.signed t n (q - min p q).toNat = b * 2 ^ (-min p q).toNat := by rw [signed_is]; exact scale hq (by omega) hw
  rw [e1, e2]
  have hk : (0 : Int) < 2 ^ (-min p q).toNat := Int.pow_pos (by omega)
  generalize (2 : Int) ^ (-min p q).toNat = K at *
  congr 1
  rcases Int.lt_trichotomy a b with c | c | c
  · have : a * K < b * K := Int.mul_lt_mul_of_pos_right c hk
    rw [Int.compare_eq_lt.2 c, Int.compare_eq_lt.2 this]
  · subst c
    simp [Std.ReflCmp.compare_self]
  · have : b * K < a * K := Int.mul_lt_mul_of_pos_right c hk
    rw [Int.compare_eq_gt.2 c, Int.compare_eq_gt.2 this]
theorem iv_fin {x : Nat} {a : Int} (h : Iv x a) : nanB .f64 x = false ∧ finB x = true := by
  obtain ⟨s, m, p, e1, _, _⟩ := h
  have h1 : nanB .f64 x = false := by unfold nanB; rw [e1]; rfl
  refine ⟨h1, ?_⟩
  unfold finB
  rw [h1, e1]
  rfl
theorem Dv.quotient {d e : Ieee.Datum} {q b : Int} (h : Dv d (q * b)) (k : Dv e b) (hb : b ≠ 0) (hn : (q * b).natAbs < 2 ^ 53) : ∃ r, d.quotient 54 e = some r ∧ Dv r q := by
  obtain ⟨s, m, p, rfl, hp, hv⟩ := h
  obtain ⟨t, n, p2, rfl, hq, hw⟩ := k
  obtain ⟨A, hA⟩ : ∃ A : Nat, p = -(A : Int) := ⟨(-p).toNat, by omega⟩
  obtain ⟨B, hB⟩ : ∃ B : Nat, p2 = -(B : Int) := ⟨(-p2).toNat, by omega⟩
  rw [show (-p).toNat = A by omega] at hv
  rw [show (-p2).toNat = B by omega] at hw
  have pA : 0 < 2 ^ A := Nat.pow_pos (by omega)
  have pB : 0 < 2 ^ B := Nat.pow_pos (by omega)
  have hm : m = (q * b).natAbs * 2 ^ A := by
    have h1 : (if s then -(m : Int) else (m : Int)).natAbs = m := by cases s <;> simp
    rw [← h1, hv, Int.natAbs_mul, Int.natAbs_pow]; rfl
  have hnn : n = b.natAbs * 2 ^ B := by
    have h1 : (if t then -(n : Int) else (n : Int)).natAbs = n := by cases t <;> simp
    rw [← h1, hw, Int.natAbs_mul, Int.natAbs_pow]; rfl
  have hbp : 0 < b.natAbs := by omega
  have hnp : 0 < n := by rw [hnn]; exact Nat.mul_pos hbp pB
  have hln : n.log2 = b.natAbs.log2 + B := by rw [hnn]; exact log2_shift hbp B
  refine ⟨_, by unfold Ieee.Datum.quotient; dsimp only; rw [if_neg (by omega)], ?_⟩
  by_cases h0 : q = 0
  · subst h0
    have hm0 : m = 0 := by rw [hm]; simp
    subst hm0
    refine ⟨_, _, _, rfl, ?_, ?_⟩
    · have : Nat.log2 0 = 0 := by decide
      rw [this, hln]
      omega
    · simp
  · have hqb : 0 < (q * b).natAbs := by
      rw [Int.natAbs_mul]; exact Nat.mul_pos (by omega) hbp
    have hlm : m.log2 = (q * b).natAbs.log2 + A := by rw [hm]; exact log2_shift hqb A
    have hlq : (q * b).natAbs.log2 ≤ 52 := by
      have := (Nat.log2_lt (by omega)).2 hn
      omega
    obtain ⟨M, hM⟩ : ∃ M, 54 + n.log2 - m.log2 = M := ⟨_, rfl⟩
    rw [hM]
    obtain ⟨E, hE⟩ : ∃ E, A + M = E + B := ⟨A + M - B, by omega⟩
    have hsh : m <<< M = q.natAbs * 2 ^ E * n := by
      rw [Nat.shiftLeft_eq, hm, hnn, Nat.mul_assoc, ← Nat.pow_add, hE, Nat.pow_add, Int.natAbs_mul]
      simp only [Nat.mul_assoc, Nat.mul_left_comm]
    rw [hsh, Nat.mul_div_cancel _ hnp, Nat.mul_mod_left]
    refine ⟨_, _, _, rfl, by omega, ?_⟩
    have ht : (-(p - p2 - (M : Int) - 1)).toNat = E + 1 := by omega
    rw [ht]
    have hmag : 2 * (q.natAbs * 2 ^ E) + (0 != 0 : Bool).toNat = q.natAbs * 2 ^ (E + 1) := by
      rw [Nat.pow_succ]
      show 2 * (q.natAbs * 2 ^ E) + 0 = _
      rw [Nat.add_zero, Nat.mul_comm 2, Nat.mul_assoc]
    rw [hmag]
    -- the signs
    have key : (if s then -(m : Int) else (m : Int)) * 2 ^ B = q * 2 ^ A * (if t then -(n : Int) else (n : Int)) := by
      rw [hv, hw]
      simp only [Int.mul_assoc, Int.mul_left_comm]
    have mp : (0 : Int) < (m : Int) * 2 ^ B := by
      have : 0 < m * 2 ^ B := Nat.mul_pos (by rw [hm]; exact Nat.mul_pos hqb pA) pB
      have h2 : ((m * 2 ^ B : Nat) : Int) = (m : Int) * 2 ^ B := by rw [Int.natCast_mul, Int.natCast_pow]; rfl
      rw [← h2]; omega
    have np : (0 : Int) < 2 ^ A * (n : Int) := by
      have : 0 < 2 ^ A * n := Nat.mul_pos pA hnp
      have h2 : ((2 ^ A * n : Nat) : Int) = 2 ^ A * (n : Int) := by rw [Int.natCast_mul, Int.natCast_pow]; rfl
      rw [← h2]; omega
    have hsg : ∀ z : Int, (0 : Int) < z → (0 < q → 0 < q * z) ∧ (q < 0 → q * z < 0) := fun z hz => ⟨fun c => Int.mul_pos c hz, fun c => by have := Int.mul_pos (a := -q) (b := z) (by omega) hz; rw [Int.neg_mul] at this; omega⟩
    obtain ⟨g1, g2⟩ := hsg _ np
    have cast : ((q.natAbs * 2 ^ (E + 1) : Nat) : Int) = (q.natAbs : Int) * 2 ^ (E + 1) := by rw [Int.natCast_mul, Int.natCast_pow]; rfl
    rw [cast]
    cases s <;> cases t
    · simp only [Bool.false_eq_true, if_false, Bool.xor_false] at key ⊢
      rw [Int.mul_assoc] at key
      have : 0 < q := by omega
      rw [show (q.natAbs : Int) = q by omega]
    · simp only [Bool.false_eq_true, if_false, if_true, Bool.false_xor] at key ⊢
      rw [Int.mul_neg, Int.mul_assoc] at key
      have : q < 0 := by omega
      rw [← Int.neg_mul, show -(q.natAbs : Int) = q by omega]
    · simp only [Bool.false_eq_true, if_false, if_true, Bool.xor_false] at key ⊢
      rw [Int.neg_mul, Int.mul_assoc] at key
      have : q < 0 := by omega
      rw [← Int.neg_mul, show -(q.natAbs : Int) = q by omega]
    · simp only [Bool.false_eq_true, if_false, if_true, Bool.xor_self] at key ⊢
      rw [Int.neg_mul, Int.mul_neg, Int.mul_assoc] at key
      have : 0 < q := by omega
      rw [show (q.natAbs : Int) = q by omega]
theorem iv_quo {x y : Nat} {q b : Int} (h : Iv x (q * b)) (k : Iv y b) (hb : b ≠ 0) (hn : (q * b).natAbs < 2 ^ 53) (hq : q.natAbs < 2 ^ 53) : Iv (fl .quo .f64 x y) q := by
  obtain ⟨r, e, hr⟩ := Dv.quotient h k hb hn
  have : fl .quo .f64 x y = FloatKind.f64.format.write r := by
    unfold fl floatBits Ieee.Format.div
    simp only
    rw [show FloatKind.f64.format.fractionBits + 2 = 54 from rfl, e]; rfl
  rw [this]
  exact hr.write hq
theorem iv_alike {x y : Nat} {a : Int} (h : Iv y a) (k : Alike .f64 x y) : Iv x a := by
  rcases k with k | ⟨_, k⟩
  · rw [k]; exact h
  · rw [(iv_fin h).1] at k; cases k
theorem iv_zero : Iv 0 0 := ⟨false, 0, -1074, by decide, by omega, by rw [Int.zero_mul]; rfl⟩
theorem iv_one : Iv 4607182418800017408 1 := ⟨false, 4503599627370496, -52, by decide, by omega, by decide⟩

end Go.Proofs.Ytomcbbpaajpeiaa
