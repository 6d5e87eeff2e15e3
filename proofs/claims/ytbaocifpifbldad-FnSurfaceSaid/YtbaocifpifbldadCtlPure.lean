/-
  Gains, limits, laws, mixes and trims in plain numbers. No program here.
-/
import Derived.Test.YtbaocifpifbldadLowPure
namespace Go.Proofs.Ytbaocifpifbldad
open Go

/-- Whether a gain is so. -/
def gaB (xs ys : List Int) : Bool := inB xs.length 2 8 && decide (ys.length = xs.length) && riseB xs && allB xs 0 1000 && allB ys 0 1000
theorem gaB_no {xs ys : List Int} (e : inB xs.length 2 8 = false ∨ ¬ ys.length = xs.length ∨ riseB xs = false ∨ allB xs 0 1000 = false ∨ allB ys 0 1000 = false) : gaB xs ys = false := by
  rcases e with e | e | e | e | e <;> simp [gaB, e]
theorem gaB_yes {xs ys : List Int} (e1 : inB xs.length 2 8 = true) (e2 : ys.length = xs.length) (e3 : riseB xs = true) (e4 : allB xs 0 1000 = true) (e5 : allB ys 0 1000 = true) : gaB xs ys = true := by
  unfold gaB; rw [e1, e3, e4, e5]; simp [e2]
/-- What a right gain's numbers are. -/
structure GaFit (xs ys : List Int) : Prop where
  n0 : 2 ≤ xs.length
  n1 : xs.length ≤ 8
  len : ys.length = xs.length
  rise : ∀ i, i + 1 < xs.length → nth xs i < nth xs (i + 1)
  xb : ∀ i, i < xs.length → 0 ≤ nth xs i ∧ nth xs i ≤ 1000
  yb : ∀ i, i < xs.length → 0 ≤ nth ys i ∧ nth ys i ≤ 1000
theorem gaFit {xs ys : List Int} (e : gaB xs ys = true) : GaFit xs ys := by
  simp only [gaB, Bool.and_eq_true, decide_eq_true_eq] at e
  obtain ⟨⟨⟨⟨e1, e2⟩, e3⟩, e4⟩, e5⟩ := e
  have f1 := in_facts e1
  simp only [riseB, decide_eq_true_eq] at e3
  simp only [allB, decide_eq_true_eq] at e4 e5
  exact ⟨by omega, by omega, e2, fun i hi => e3 i (by omega), fun i hi => in_facts (e4 i hi), fun i hi => in_facts (e5 i (by omega))⟩

/-- A place held between the first and the last of a list. -/
def gaX (xs : List Int) (x : Int) : Int := max (nth xs 0) (min (nth xs (xs.length - 1)) x)
theorem gaRise {xs ys : List Int} (f : GaFit xs ys) : ∀ j, j < xs.length → nth xs 0 ≤ nth xs j := by
  intro j
  induction j with
  | zero => intro _; omega
  | succ j ih => intro hj; have := ih (by omega); have := f.rise j (by omega); omega
theorem gaX_impl {xs ys : List Int} {x : Int} (f : GaFit xs ys) : (min (max x (nth xs 0)) (nth xs (xs.length - 1))) = gaX xs x := by
  have := gaRise f (xs.length - 1) (by have := f.n0; omega)
  unfold gaX; omega
theorem gaX_in {xs ys : List Int} (x : Int) (f : GaFit xs ys) : nth xs 0 ≤ gaX xs x ∧ gaX xs x ≤ nth xs (xs.length - 1) := by
  have := gaRise f (xs.length - 1) (by have := f.n0; omega)
  unfold gaX; omega
theorem gaX_inB {xs ys : List Int} (x : Int) (f : GaFit xs ys) : inB (gaX xs x) (nth xs 0) (nth xs (xs.length - 1)) = true := by
  have := gaX_in x f
  simp [inB, this]
theorem gaX_bd {xs ys : List Int} (x : Int) (f : GaFit xs ys) : 0 ≤ gaX xs x ∧ gaX xs x ≤ 1000 := by
  have := gaX_in x f
  have := f.xb 0 (by have := f.n0; omega)
  have := f.xb (xs.length - 1) (by have := f.n0; omega)
  omega

theorem lowAt_spec {zs : List Int} {x : Int} (h : 2 ≤ zs.length) : beyond zs x (lowAt zs x) = false ∧ ∀ j, j < lowAt zs x → beyond zs x j = true := by
  have he : beyond zs x (zs.length - 2) = false := beyond_end (by omega)
  unfold lowAt
  cases hf : (List.range zs.length).find? (fun i => !beyond zs x i) with
  | none =>
    rw [List.find?_eq_none] at hf
    have := hf (zs.length - 2) (by simp; omega)
    rw [he] at this
    simp at this
  | some i =>
    rw [List.find?_range_eq_some] at hf
    simp only [Option.getD_some]
    refine ⟨by simpa using hf.1, fun j hj => ?_⟩
    have := hf.2.2 j hj
    simpa using this
theorem lowAt_between {xs ys : List Int} {x : Int} (f : GaFit xs ys) (h : nth xs 0 ≤ x ∧ x ≤ nth xs (xs.length - 1)) : nth xs (lowAt xs x) ≤ x ∧ x ≤ nth xs (lowAt xs x + 1) := by
  have hn := f.n0
  obtain ⟨s1, s2⟩ := lowAt_spec (zs := xs) (x := x) hn
  have hk := lowAt_lt (zs := xs) (x := x) hn
  generalize lowAt xs x = k at *
  constructor
  · rcases k with _ | k
    · exact h.1
    · have := s2 k (by omega)
      simp only [beyond, decide_eq_true_eq] at this
      exact this.2
  · simp only [beyond, decide_eq_false_iff_not] at s1
    by_cases c : k + 2 < xs.length
    · have : ¬ nth xs (k + 1) ≤ x := fun d => s1 ⟨c, d⟩
      omega
    · have e : k + 1 = xs.length - 1 := by omega
      rw [e]; exact h.2

/-- The value at a place times the width, and the width. -/
def gaNum (xs ys : List Int) (x : Int) : Int := nth ys (lowAt xs x) * (nth xs (lowAt xs x + 1) - nth xs (lowAt xs x)) + (nth ys (lowAt xs x + 1) - nth ys (lowAt xs x)) * (x - nth xs (lowAt xs x))
def gaDen (xs : List Int) (x : Int) : Int := nth xs (lowAt xs x + 1) - nth xs (lowAt xs x)
/-- The gain at a speed. -/
def gaAt (xs ys : List Int) (x : Int) : Int := if gaB xs ys then gaNum xs ys (gaX xs x) / gaDen xs (gaX xs x) else 0

theorem between_num {x0 x1 y0 y1 x : Int} (h0 : x0 ≤ x) (h1 : x ≤ x1) (a0 : 0 ≤ y0) (a1 : y0 ≤ 1000) (b0 : 0 ≤ y1) (b1 : y1 ≤ 1000) : 0 ≤ y0 * (x1 - x0) + (y1 - y0) * (x - x0) ∧ y0 * (x1 - x0) + (y1 - y0) * (x - x0) ≤ 1000 * (x1 - x0) := by
  have e1 : 0 ≤ y0 * (x1 - x) := Int.mul_nonneg a0 (by omega)
  have e2 : 0 ≤ y1 * (x - x0) := Int.mul_nonneg b0 (by omega)
  have e3 : y0 * (x1 - x) ≤ 1000 * (x1 - x) := Int.mul_le_mul_of_nonneg_right a1 (by omega)
  have e4 : y1 * (x - x0) ≤ 1000 * (x - x0) := Int.mul_le_mul_of_nonneg_right b1 (by omega)
  simp only [Int.sub_mul, Int.mul_sub] at *
  omega

theorem gaNum_bd {xs ys : List Int} (x : Int) (f : GaFit xs ys) : 1 ≤ gaDen xs (gaX xs x) ∧ gaDen xs (gaX xs x) ≤ 1000 ∧ 0 ≤ gaNum xs ys (gaX xs x) ∧ gaNum xs ys (gaX xs x) ≤ 1000 * gaDen xs (gaX xs x) := by
  have hb := lowAt_between f (gaX_in x f)
  have hk := lowAt_lt (zs := xs) (x := gaX xs x) f.n0
  unfold gaDen gaNum
  generalize lowAt xs (gaX xs x) = k at *
  have r := f.rise k (by omega)
  have q0 := f.xb k (by omega)
  have q1 := f.xb (k + 1) (by omega)
  have p0 := f.yb k (by omega)
  have p1 := f.yb (k + 1) (by omega)
  have := between_num hb.1 hb.2 p0.1 p0.2 p1.1 p1.2
  exact ⟨by omega, by omega, this.1, this.2⟩

theorem gaAt_bd (xs ys : List Int) (x : Int) : 0 ≤ gaAt xs ys x ∧ gaAt xs ys x ≤ 1000 := by
  unfold gaAt
  cases h : gaB xs ys with
  | false => simp
  | true =>
    obtain ⟨a, b, c, d⟩ := gaNum_bd x (gaFit h)
    simp only [if_true]
    exact ⟨Int.ediv_nonneg c (by omega), Int.ediv_le_of_le_mul (by omega) d⟩

/-- A number held. -/
def holdI (x a b : Int) : Int := max a (min b x)
theorem holdI_impl {x a b : Int} (h : a ≤ b) : min (max x a) b = holdI x a b := by unfold holdI; omega

/-- Limits, sticks. -/
def liB (a b s : Int) : Bool := inB a (-10000) b && decide (b ≤ 10000) && inB s 1 10000
def stB (a r l : Int) : Bool := inB a (-1000) 1000 && inB r (-10000) 10000 && inB l (-1000) 1000
structure LiFit (a b s : Int) : Prop where
  a0 : -10000 ≤ a
  ab : a ≤ b
  b1 : b ≤ 10000
  s0 : 1 ≤ s
  s1 : s ≤ 10000
theorem liFit {a b s : Int} (e : liB a b s = true) : LiFit a b s := by
  simp only [liB, Bool.and_eq_true, decide_eq_true_eq] at e
  obtain ⟨⟨e1, e2⟩, e3⟩ := e
  have f1 := in_facts e1
  have f3 := in_facts e3
  exact ⟨f1.1, f1.2, e2, f3.1, f3.2⟩
structure StFit (a r l : Int) : Prop where
  a0 : -1000 ≤ a
  a1 : a ≤ 1000
  r0 : -10000 ≤ r
  r1 : r ≤ 10000
  l0 : -1000 ≤ l
  l1 : l ≤ 1000
theorem stFit {a r l : Int} (e : stB a r l = true) : StFit a r l := by
  simp only [stB, Bool.and_eq_true] at e
  obtain ⟨⟨e1, e2⟩, e3⟩ := e
  have f1 := in_facts e1
  have f2 := in_facts e2
  have f3 := in_facts e3
  exact ⟨f1.1, f1.2, f2.1, f2.2, f3.1, f3.2⟩

/-- The law to fly by. -/
def modR (a : Int) (b : Bool) (c : Int) : Int := if a < 2 ∨ 2 < c then 2 else if b = false ∨ 0 < c then 1 else 0

/-- A tick of a trim. -/
def trB (t h k : Int) : Bool := inB t (-1000) 1000 && inB h (-1000) 1000 && inB k 0 9
def trT (t h k : Int) : Int := if trB t h k then (if h = 0 then t else if k < 9 then t else if 0 < h then min 1000 (t + 1) else max (-1000) (t - 1)) else 0
def trK (t h k : Int) : Int := if trB t h k then (if h = 0 then 0 else if k < 9 then k + 1 else 0) else 0

/-- A mix. -/
def miB (xs ys : List Int) (p r a b s : Int) : Bool := decide (xs.length ≤ 12) && decide (ys.length = xs.length) && allB xs (-100) 100 && allB ys (-100) 100 && liB a b s && inB p (-10000) 10000 && inB r (-10000) 10000
def miX (xs ys : List Int) (p r : Int) (i : Nat) : Int := (nth xs i * p + nth ys i * r).tdiv 100
def miY (xs ys : List Int) (p r a b : Int) (i : Nat) : Int := holdI (miX xs ys p r i) a b
def miTo (xs ys : List Int) (p r a b : Int) (n : Nat) : List Int := (List.range n).map (miY xs ys p r a b)
def miCn (xs ys : List Int) (p r a b : Int) : Nat → Int
  | 0 => 0
  | n + 1 => miCn xs ys p r a b n + (if miX xs ys p r n = miY xs ys p r a b n then 0 else 1)
def miL (xs ys : List Int) (p r a b s : Int) : List Int := if miB xs ys p r a b s then miTo xs ys p r a b xs.length else []
def miC (xs ys : List Int) (p r a b s : Int) : Int := if miB xs ys p r a b s then miCn xs ys p r a b xs.length else 0
theorem miTo_succ (xs ys : List Int) (p r a b : Int) (n : Nat) : miTo xs ys p r a b (n + 1) = miTo xs ys p r a b n ++ [miY xs ys p r a b n] := by
  simp [miTo, List.range_succ]
theorem miTo_len (xs ys : List Int) (p r a b : Int) (n : Nat) : (miTo xs ys p r a b n).length = n := by simp [miTo]
theorem miCn_bd (xs ys : List Int) (p r a b : Int) (n : Nat) : 0 ≤ miCn xs ys p r a b n ∧ miCn xs ys p r a b n ≤ n := by
  induction n with
  | zero => simp [miCn]
  | succ n ih => unfold miCn; split <;> omega
structure MiFit (xs ys : List Int) (p r a b s : Int) : Prop where
  n : xs.length ≤ 12
  len : ys.length = xs.length
  xb : ∀ i, i < xs.length → -100 ≤ nth xs i ∧ nth xs i ≤ 100
  yb : ∀ i, i < xs.length → -100 ≤ nth ys i ∧ nth ys i ≤ 100
  li : LiFit a b s
  p0 : -10000 ≤ p
  p1 : p ≤ 10000
  r0 : -10000 ≤ r
  r1 : r ≤ 10000
theorem miFit {xs ys : List Int} {p r a b s : Int} (e : miB xs ys p r a b s = true) : MiFit xs ys p r a b s := by
  simp only [miB, Bool.and_eq_true, decide_eq_true_eq] at e
  obtain ⟨⟨⟨⟨⟨⟨e1, e2⟩, e3⟩, e4⟩, e5⟩, e6⟩, e7⟩ := e
  simp only [allB, decide_eq_true_eq] at e3 e4
  have f6 := in_facts e6
  have f7 := in_facts e7
  exact ⟨e1, e2, fun i hi => in_facts (e3 i hi), fun i hi => in_facts (e4 i (by omega)), liFit e5, f6.1, f6.2, f7.1, f7.2⟩
theorem miSum_bd {xs ys : List Int} {p r a b s : Int} (f : MiFit xs ys p r a b s) (i : Nat) (hi : i < xs.length) : (-1000000 ≤ nth xs i * p ∧ nth xs i * p ≤ 1000000) ∧ (-1000000 ≤ nth ys i * r ∧ nth ys i * r ≤ 1000000) := by
  have h1 := f.xb i hi
  have h2 := f.yb i hi
  exact ⟨mulBd (A := 100) (B := 10000) h1.1 h1.2 f.p0 f.p1 (by omega) (by omega), mulBd (A := 100) (B := 10000) h2.1 h2.2 f.r0 f.r1 (by omega) (by omega)⟩

end Go.Proofs.Ytbaocifpifbldad
