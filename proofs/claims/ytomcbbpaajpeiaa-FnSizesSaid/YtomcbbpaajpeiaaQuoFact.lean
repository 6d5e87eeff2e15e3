/-
  Whole complex numbers times a unit and divided again, in floats: what FnQuotient asks. No program here.
-/
import Derived.Test.YtomcbbpaajpeiaaFlNum
import Derived.Test.YtomcbbpaajpeiaaOverPure
import Derived.Test.YtomcbbpaajpeiaaFlutPure
namespace Go.Proofs.Ytomcbbpaajpeiaa
open Go

theorem small_fit {n : Int} (h : -1000000 ≤ n ∧ n ≤ 1000000) : n.natAbs < 2 ^ 53 := by
  have : (2 : Nat) ^ 53 = 9007199254740992 := by decide
  omega
/-- One of the six units. -/
structure Un (x y : Nat) (ci di : Int) : Prop where
  c : Iv x ci
  d : Iv y di
  n : Iv (ng y) (-di)
  b : (-4 ≤ ci ∧ ci ≤ 4) ∧ (-4 ≤ di ∧ di ≤ 4)
  s : 1 ≤ ci * ci + di * di ∧ ci * ci + di * di ≤ 32
def lit (d : Ieee.Datum) (n : Int) : Bool := match d with
  | .number s m p => decide (p ≤ 0) && decide (-p ≤ 60) && decide ((if s then -(m : Int) else (m : Int)) = n * (2 : Int) ^ (-p).toNat)
  | _ => false
theorem iv_lit {x : Nat} {n : Int} (h : lit (FloatKind.f64.format.read x) n = true) : Iv x n := by
  unfold lit at h
  cases hr : FloatKind.f64.format.read x with
  | number s m p =>
    rw [hr] at h
    simp only [Bool.and_eq_true, decide_eq_true_eq] at h
    exact ⟨s, m, p, hr, h.1.1, h.2⟩
  | infinity s => rw [hr] at h; cases h
  | nan s t => rw [hr] at h; cases h
theorem iv_nought {x : Nat} (h : (match FloatKind.f64.format.read x with | .number _ m p => m == 0 && decide (p ≤ 0) | _ => false) = true) : Iv x 0 := by
  cases hr : FloatKind.f64.format.read x with
  | number s m p =>
    rw [hr] at h
    simp only [Bool.and_eq_true, decide_eq_true_eq, beq_iff_eq] at h
    obtain ⟨rfl, h2⟩ := h
    exact ⟨s, 0, p, hr, h2, by rw [Int.zero_mul]; cases s <;> rfl⟩
  | infinity s => rw [hr] at h; cases h
  | nan s t => rw [hr] at h; cases h
theorem un_of {c d : Nat} {ci di : Int} (hc : Iv c ci) (hd : Iv d di) (hn : Iv (ng d) (-di)) (hb : decide ((-4 ≤ ci ∧ ci ≤ 4) ∧ (-4 ≤ di ∧ di ≤ 4)) = true) (hs : decide (1 ≤ ci * ci + di * di ∧ ci * ci + di * di ≤ 32) = true) : Un c d ci di := ⟨hc, hd, hn, of_decide_eq_true hb, of_decide_eq_true hs⟩
theorem un0 : Un 4607182418800017408 0 1 0 := un_of (iv_lit (by decide)) (iv_nought (by decide)) (iv_nought (by decide)) (by decide) (by decide)
theorem un1 : Un 4611686018427387904 0 2 0 := un_of (iv_lit (by decide)) (iv_nought (by decide)) (iv_nought (by decide)) (by decide) (by decide)
theorem un2 : Un 0 4607182418800017408 0 1 := un_of (iv_nought (by decide)) (iv_lit (by decide)) (iv_lit (by decide)) (by decide) (by decide)
theorem un3 : Un 13839561654909534208 0 (-4) 0 := un_of (iv_lit (by decide)) (iv_nought (by decide)) (iv_nought (by decide)) (by decide) (by decide)
theorem un4 : Un 0 13835058055282163712 0 (-2) := un_of (iv_nought (by decide)) (iv_lit (by decide)) (iv_lit (by decide)) (by decide) (by decide)
theorem un5 : Un 4607182418800017408 4607182418800017408 1 1 := un_of (iv_lit (by decide)) (iv_lit (by decide)) (iv_lit (by decide)) (by decide) (by decide)
theorem iv_eq {x y : Nat} {n : Int} (h : Iv x n) (k : Iv y n) : (FloatKind.f64.format.order x y == some .eq) = true := by
  rw [iv_order h k]; simp [Std.ReflCmp.compare_self]
theorem iv_ne {x y : Nat} {n m : Int} (h : Iv x n) (k : Iv y m) (hne : n ≠ m) : (FloatKind.f64.format.order x y == some .eq) = false := by
  rw [iv_order h k]
  rcases (show n < m ∨ m < n by omega) with c | c
  · rw [Int.compare_eq_lt.2 c]; rfl
  · rw [Int.compare_eq_gt.2 c]; rfl
theorem pb {p c : Int} {A B : Int} (hp : -A ≤ p ∧ p ≤ A) (hc : -B ≤ c ∧ c ≤ B) (_hA : 0 ≤ A) (_hB : 0 ≤ B) : -(A * B) ≤ p * c ∧ p * c ≤ A * B := by
  have e1 : 0 ≤ (A - p) * (B - c) := Int.mul_nonneg (by omega) (by omega)
  have e2 : 0 ≤ (A + p) * (B + c) := Int.mul_nonneg (by omega) (by omega)
  have e3 : 0 ≤ (A - p) * (B + c) := Int.mul_nonneg (by omega) (by omega)
  have e4 : 0 ≤ (A + p) * (B - c) := Int.mul_nonneg (by omega) (by omega)
  simp only [Int.sub_mul, Int.add_mul, Int.mul_sub, Int.mul_add] at e1 e2 e3 e4
  constructor <;> omega
theorem iv_tRe {a b c d : Nat} {p q r s : Int} {A B : Int} (ha : Iv a p) (hb : Iv b q) (hc : Iv c r) (hd : Iv d s) (h1 : -A ≤ p ∧ p ≤ A) (h2 : -A ≤ q ∧ q ≤ A) (h3 : -B ≤ r ∧ r ≤ B) (h4 : -B ≤ s ∧ s ≤ B) (hA : 0 ≤ A ∧ A ≤ 10000) (hB : 0 ≤ B ∧ B ≤ 10) : Iv (tRe a b c d) (p * r - q * s) := by
  have k1 := pb h1 h3 hA.1 hB.1
  have k2 := pb h2 h4 hA.1 hB.1
  have k3 := pb (p := A) (c := B) (A := 10000) (B := 10) (by omega) (by omega) (by omega) (by omega)
  exact iv_sub (iv_mul ha hc (small_fit (by omega))) (iv_mul hb hd (small_fit (by omega))) (small_fit (by omega))
theorem iv_tIm {a b c d : Nat} {p q r s : Int} {A B : Int} (ha : Iv a p) (hb : Iv b q) (hc : Iv c r) (hd : Iv d s) (h1 : -A ≤ p ∧ p ≤ A) (h2 : -A ≤ q ∧ q ≤ A) (h3 : -B ≤ r ∧ r ≤ B) (h4 : -B ≤ s ∧ s ≤ B) (hA : 0 ≤ A ∧ A ≤ 10000) (hB : 0 ≤ B ∧ B ≤ 10) : Iv (tIm a b c d) (p * s + q * r) := by
  have k1 := pb h1 h4 hA.1 hB.1
  have k2 := pb h2 h3 hA.1 hB.1
  have k3 := pb (p := A) (c := B) (A := 10000) (B := 10) (by omega) (by omega) (by omega) (by omega)
  exact iv_add (iv_mul ha hd (small_fit (by omega))) (iv_mul hb hc (small_fit (by omega))) (small_fit (by omega))
/-- Divided again. -/
theorem quo_back {x y c d : Nat} {p q ci di : Int} (u : Un c d ci di) (hp : -128 ≤ p ∧ p ≤ 128) (hq : -128 ≤ q ∧ q ≤ 128) (hx : Iv x (p * ci - q * di)) (hy : Iv y (p * di + q * ci)) :
    okOver x y c d = true ∧ Iv (reOver x y c d) p ∧ Iv (imOver x y c d) q := by
  have b1 := pb (A := 128) (B := 4) hp u.b.1 (by omega) (by omega)
  have b2 := pb (A := 128) (B := 4) hq u.b.2 (by omega) (by omega)
  have b3 := pb (A := 128) (B := 4) hp u.b.2 (by omega) (by omega)
  have b4 := pb (A := 128) (B := 4) hq u.b.1 (by omega) (by omega)
  have bc := pb (A := 4) (B := 4) u.b.1 u.b.1 (by omega) (by omega)
  have bd := pb (A := 4) (B := 4) u.b.2 u.b.2 (by omega) (by omega)
  have hs : Iv (sq c d) (ci * ci + di * di) := iv_add (iv_mul u.c u.c (small_fit (by omega))) (iv_mul u.d u.d (small_fit (by omega))) (small_fit (by have := u.s; omega))
  have hs0 : ci * ci + di * di ≠ 0 := by have := u.s; omega
  have hok : okOver x y c d = true := by
    unfold okOver
    rw [(iv_fin hx).2, (iv_fin hy).2, (iv_fin u.c).2, (iv_fin u.d).2, (iv_fin hs).2, iv_ne hs iv_zero hs0]
    rfl
  have hdn : -4 ≤ -di ∧ -di ≤ 4 := by have := u.b.2; omega
  have r1 := iv_tRe (A := 1024) (B := 4) hx hy u.c u.n (by omega) (by omega) u.b.1 hdn (by omega) (by omega)
  have r2 := iv_tIm (A := 1024) (B := 4) hx hy u.c u.n (by omega) (by omega) u.b.1 hdn (by omega) (by omega)
  have e1 : (p * ci - q * di) * ci - (p * di + q * ci) * (-di) = p * (ci * ci + di * di) := by
    simp only [Int.sub_mul, Int.add_mul, Int.mul_add, Int.mul_neg, Int.mul_assoc]
    have : q * (di * ci) = q * (ci * di) := by rw [Int.mul_comm di ci]
    omega
  have e2 : (p * ci - q * di) * (-di) + (p * di + q * ci) * ci = q * (ci * ci + di * di) := by
    simp only [Int.sub_mul, Int.add_mul, Int.mul_add, Int.mul_neg, Int.mul_assoc]
    have : p * (di * ci) = p * (ci * di) := by rw [Int.mul_comm di ci]
    omega
  rw [e1] at r1
  rw [e2] at r2
  have f1 := pb (A := 128) (B := 32) (c := ci * ci + di * di) hp (by have := u.s; omega) (by omega) (by omega)
  have f2 := pb (A := 128) (B := 32) (c := ci * ci + di * di) hq (by have := u.s; omega) (by omega) (by omega)
  refine ⟨hok, ?_, ?_⟩
  · unfold reOver
    rw [hok]
    exact iv_quo r1 hs hs0 (small_fit (by omega)) (small_fit (by omega))
  · unfold imOver
    rw [hok]
    exact iv_quo r2 hs hs0 (small_fit (by omega)) (small_fit (by omega))
theorem quo_none {x y : Nat} : okOver x y 0 0 = false := by
  have : (FloatKind.f64.format.order (sq 0 0) 0 == some .eq) = true := by decide +kernel
  unfold okOver
  rw [this]
  simp
/-- The determinant of a row twice. -/
theorem det_none {x y c d : Nat} {p q ci di : Int} (u : Un c d ci di) (hp : -128 ≤ p ∧ p ≤ 128) (hq : -128 ≤ q ∧ q ≤ 128) (hx : Iv x p) (hy : Iv y q) :
    Iv (detX x y c d x y c d) 0 ∧ Iv (detY x y c d x y c d) 0 := by
  have r1 := iv_tRe (A := 128) (B := 4) hx hy u.c u.d hp hq u.b.1 u.b.2 (by omega) (by omega)
  have r2 := iv_tIm (A := 128) (B := 4) hx hy u.c u.d hp hq u.b.1 u.b.2 (by omega) (by omega)
  have b1 := pb (A := 128) (B := 4) hp u.b.1 (by omega) (by omega)
  have b2 := pb (A := 128) (B := 4) hq u.b.2 (by omega) (by omega)
  have b3 := pb (A := 128) (B := 4) hp u.b.2 (by omega) (by omega)
  have b4 := pb (A := 128) (B := 4) hq u.b.1 (by omega) (by omega)
  have s1 : Iv (tRe c d x y) (ci * p - di * q) := iv_sub (iv_mul u.c hx (small_fit (by rw [Int.mul_comm]; omega))) (iv_mul u.d hy (small_fit (by rw [Int.mul_comm]; omega))) (small_fit (by rw [Int.mul_comm ci, Int.mul_comm di]; omega))
  have s2 : Iv (tIm c d x y) (ci * q + di * p) := iv_add (iv_mul u.c hy (small_fit (by rw [Int.mul_comm]; omega))) (iv_mul u.d hx (small_fit (by rw [Int.mul_comm]; omega))) (small_fit (by rw [Int.mul_comm ci, Int.mul_comm di]; omega))
  have z1 : p * ci - q * di - (ci * p - di * q) = 0 := by rw [Int.mul_comm ci, Int.mul_comm di]; omega
  have z2 : p * di + q * ci - (ci * q + di * p) = 0 := by rw [Int.mul_comm ci, Int.mul_comm di]; omega
  refine ⟨?_, ?_⟩
  · have := iv_sub r1 s1 (by rw [z1]; decide)
    rw [z1] at this
    exact this
  · have := iv_sub r2 s2 (by rw [z2]; decide)
    rw [z2] at this
    exact this

end Go.Proofs.Ytomcbbpaajpeiaa
