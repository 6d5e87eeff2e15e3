/-
  Legs and crafts in plain numbers: the tests, a step, the next turn of a leg, a leg flown. No program here.
  The autopilot's plain answers: the test of a pilot, a tick of its height, a tick of its course. No condition.
-/
import Derived.Test.YtglefolkecimabdLow1
import Derived.Test.YtglefolkecimabdCp1

namespace Go.Proofs.Ytglefolkecimabd
open Go

/-- A craft: its place, its direction, its height and how it climbs. -/
structure Kf where
  x : Int
  y : Int
  d : Int
  h : Int
  c : Int

/-- Whether a leg is so. -/
def lgB (k x y m : Int) : Bool :=
  if k = 1 then inB x (-500) 500 && inB y (-500) 500 else
  if k = 2 then inB x 0 7 && inB m 1 500 else
  if k = 3 then inB m 0 1000 else
  if k = 4 then inB m 1 9 else
  if k = 5 then inB x 0 7 && (y == -1 || y == 1) else false
/-- Whether a craft is so. -/
def cfB (q : Kf) : Bool := inB q.x (-1000) 1000 && inB q.y (-1000) 1000 && inB q.d 0 7 && inB q.h 0 2000 && inB q.c (-20) 20
/-- By how much a direction leads east, and north. -/
def dirX (d : Int) : Int := if d = 1 ∨ d = 2 ∨ d = 3 then 1 else if d = 5 ∨ d = 6 ∨ d = 7 then -1 else 0
def dirY (d : Int) : Int := if d = 0 ∨ d = 1 ∨ d = 7 then 1 else if d = 3 ∨ d = 4 ∨ d = 5 then -1 else 0
/-- The height behind a step. -/
def upH (h c : Int) : Int := if h + c < 0 then 0 else if 2000 < h + c then 2000 else h + c
/-- A step into a direction. -/
def stp (q : Kf) (d : Int) : Kf := ⟨q.x + dirX d, q.y + dirY d, d, upH q.h q.c, q.c⟩
def sgn (x : Int) : Int := if 0 < x then 1 else if x < 0 then -1 else 0
/-- The direction of two signs. -/
def dirOf (x y : Int) : Int :=
  if x = -1 then (if y = -1 then 5 else if y = 0 then 6 else 7) else
  if x = 0 then (if y = -1 then 4 else 0) else
  if y = -1 then 3 else if y = 0 then 2 else 1
/-- The direction that a leg turns to behind s steps. -/
def nxD (k lx ly : Int) (q : Kf) (s : Int) : Int :=
  if k = 1 then (if q.x = lx ∧ q.y = ly then q.d else dirOf (sgn (lx - q.x)) (sgn (ly - q.y))) else
  if k = 2 then lx else
  if k = 3 then q.d else
  if k = 4 then (if 0 < s ∧ s % 2 = 0 then (q.d + 1) % 8 else q.d) else
  if q.d = lx then q.d else (q.d + ly + 8) % 8
/-- Whether a step follows. -/
def nxB (k lx ly m : Int) (q : Kf) (s : Int) : Bool :=
  if k = 1 then decide (¬ (q.x = lx ∧ q.y = ly)) else
  if k = 2 then decide (s < m) else
  if k = 3 then decide (q.h < m) else
  if k = 4 then decide (s < 16 * m) else decide (¬ q.d = lx)
/-- A leg flown on from q behind s steps, n rounds at most; q0: where it began. -/
def flN (k lx ly m : Int) (q0 : Kf) : Nat → Kf → Int → Kf × Int × Int
  | 0, _, _ => (q0, 0, 2)
  | n + 1, q, s =>
    if nxB k lx ly m q s = true then
      (if cfB (stp q (nxD k lx ly q s)) = true then flN k lx ly m q0 n (stp q (nxD k lx ly q s)) (s + 1) else (q0, 0, 2))
    else (⟨q.x, q.y, nxD k lx ly q s, q.h, q.c⟩, s, 0)
/-- Whether a leg would never end. -/
def nevB (k m : Int) (q : Kf) : Bool := decide (k = 3 ∧ q.h < m ∧ q.c ≤ 0)
/-- A leg flown. -/
def flR (k lx ly m : Int) (q : Kf) : Kf × Int × Int :=
  if (cfB q && lgB k lx ly m) = true then (if nevB k m q = true then (q, 0, 3) else flN k lx ly m q 2001 q 0) else (q, 0, 1)
theorem flR_bad {k lx ly m : Int} {q : Kf} (h : (cfB q && lgB k lx ly m) = false) : flR k lx ly m q = (q, 0, 1) := by simp [flR, h]
theorem flR_never {k lx ly m : Int} {q : Kf} (h : (cfB q && lgB k lx ly m) = true) (n : nevB k m q = true) : flR k lx ly m q = (q, 0, 3) := by simp only [flR, h, n, if_true]
theorem flR_on {k lx ly m : Int} {q : Kf} (h : (cfB q && lgB k lx ly m) = true) (n : nevB k m q = false) : flR k lx ly m q = flN k lx ly m q 2001 q 0 := by simp only [flR, h, n, if_true, Bool.false_eq_true, if_false]
/-- How many rounds are left at most. -/
def flM (k lx ly m : Int) (q : Kf) (s : Int) : Int :=
  if k = 1 then max (max (lx - q.x) (q.x - lx)) (max (ly - q.y) (q.y - ly)) else
  if k = 2 then m - s else
  if k = 3 then max (m - q.h) 0 else
  if k = 4 then 16 * m - s else ((lx - q.d) * ly) % 8
/-- What holds ahead of every round. -/
structure FlI (k lx ly m : Int) (q : Kf) (s : Int) : Prop where
  so : cfB q = true
  lg : lgB k lx ly m = true
  s0 : 0 ≤ s
  s2 : k = 2 → s ≤ m
  s4 : k = 4 → s ≤ 16 * m
  up : k = 3 → 0 < q.c ∨ m ≤ q.h

theorem cfB_facts {q : Kf} (h : cfB q = true) : (-1000 ≤ q.x ∧ q.x ≤ 1000) ∧ (-1000 ≤ q.y ∧ q.y ≤ 1000) ∧ (0 ≤ q.d ∧ q.d ≤ 7) ∧ (0 ≤ q.h ∧ q.h ≤ 2000) ∧ (-20 ≤ q.c ∧ q.c ≤ 20) := by
  simp only [cfB, Bool.and_eq_true] at h
  exact ⟨in_facts h.1.1.1.1, in_facts h.1.1.1.2, in_facts h.1.1.2, in_facts h.1.2, in_facts h.2⟩
theorem lgB_1 {lx ly m : Int} (h : lgB 1 lx ly m = true) : (-500 ≤ lx ∧ lx ≤ 500) ∧ (-500 ≤ ly ∧ ly ≤ 500) := by
  simp only [lgB, if_true, Bool.and_eq_true] at h; exact ⟨in_facts h.1, in_facts h.2⟩
theorem lgB_2 {lx ly m : Int} (h : lgB 2 lx ly m = true) : (0 ≤ lx ∧ lx ≤ 7) ∧ (1 ≤ m ∧ m ≤ 500) := by
  have h : (inB lx 0 7 && inB m 1 500) = true := h
  simp only [Bool.and_eq_true] at h; exact ⟨in_facts h.1, in_facts h.2⟩
theorem lgB_3 {lx ly m : Int} (h : lgB 3 lx ly m = true) : 0 ≤ m ∧ m ≤ 1000 := in_facts (show inB m 0 1000 = true from h)
theorem lgB_4 {lx ly m : Int} (h : lgB 4 lx ly m = true) : 1 ≤ m ∧ m ≤ 9 := in_facts (show inB m 1 9 = true from h)
theorem lgB_5 {lx ly m : Int} (h : lgB 5 lx ly m = true) : (0 ≤ lx ∧ lx ≤ 7) ∧ (ly = -1 ∨ ly = 1) := by
  have h : (inB lx 0 7 && (ly == -1 || ly == 1)) = true := h
  simp only [Bool.and_eq_true, Bool.or_eq_true, beq_iff_eq] at h; exact ⟨in_facts h.1, h.2⟩
theorem lgB_kind {k lx ly m : Int} (h : lgB k lx ly m = true) : k = 1 ∨ k = 2 ∨ k = 3 ∨ k = 4 ∨ k = 5 := by
  by_cases h1 : k = 1
  · exact .inl h1
  by_cases h2 : k = 2
  · exact .inr (.inl h2)
  by_cases h3 : k = 3
  · exact .inr (.inr (.inl h3))
  by_cases h4 : k = 4
  · exact .inr (.inr (.inr (.inl h4)))
  by_cases h5 : k = 5
  · exact .inr (.inr (.inr (.inr h5)))
  simp [lgB, h1, h2, h3, h4, h5] at h

theorem sgn_in (x : Int) : -1 ≤ sgn x ∧ sgn x ≤ 1 := by unfold sgn; split <;> (try split) <;> omega
theorem dirOf_in (x y : Int) : 0 ≤ dirOf x y ∧ dirOf x y ≤ 7 := by unfold dirOf; split <;> (try split) <;> (try split) <;> omega
theorem dirOf_x {x y : Int} (h : -1 ≤ x ∧ x ≤ 1) (g : -1 ≤ y ∧ y ≤ 1) (n : ¬ (x = 0 ∧ y = 0)) : dirX (dirOf x y) = x ∧ dirY (dirOf x y) = y := by
  have hx : x = -1 ∨ x = 0 ∨ x = 1 := by omega
  have hy : y = -1 ∨ y = 0 ∨ y = 1 := by omega
  rcases hx with rfl | rfl | rfl <;> rcases hy with rfl | rfl | rfl <;> first | (exact absurd ⟨rfl, rfl⟩ n) | decide
theorem dir_in (d : Int) : (-1 ≤ dirX d ∧ dirX d ≤ 1) ∧ (-1 ≤ dirY d ∧ dirY d ≤ 1) := by
  refine ⟨?_, ?_⟩
  · unfold dirX; split <;> (try split) <;> omega
  · unfold dirY; split <;> (try split) <;> omega
theorem upH_in (h c : Int) : 0 ≤ upH h c ∧ upH h c ≤ 2000 := by unfold upH; split <;> (try split) <;> omega

/-- The direction of a turn is one. -/
theorem nxD_in {k lx ly m : Int} {q : Kf} {s : Int} (i : FlI k lx ly m q s) : 0 ≤ nxD k lx ly q s ∧ nxD k lx ly q s ≤ 7 := by
  have f := cfB_facts i.so
  have g := i.lg
  rcases lgB_kind i.lg with rfl | rfl | rfl | rfl | rfl
  · have e : nxD 1 lx ly q s = if q.x = lx ∧ q.y = ly then q.d else dirOf (sgn (lx - q.x)) (sgn (ly - q.y)) := rfl
    rw [e]; split
    · omega
    · exact dirOf_in _ _
  · have e : nxD 2 lx ly q s = lx := rfl
    rw [e]; exact (lgB_2 g).1
  · have e : nxD 3 lx ly q s = q.d := rfl
    rw [e]; omega
  · have e : nxD 4 lx ly q s = if 0 < s ∧ s % 2 = 0 then (q.d + 1) % 8 else q.d := rfl
    rw [e]; split <;> omega
  · have e : nxD 5 lx ly q s = if q.d = lx then q.d else (q.d + ly + 8) % 8 := rfl
    rw [e]; split <;> omega

/-- Behind a step only the place may be out of its bounds. -/
theorem cfB_stp {q : Kf} {d : Int} (h : cfB q = true) (d0 : 0 ≤ d) (d7 : d ≤ 7) : cfB (stp q d) = (inB (q.x + dirX d) (-1000) 1000 && inB (q.y + dirY d) (-1000) 1000) := by
  have f := cfB_facts h
  have u := upH_in q.h q.c
  have e1 : inB d 0 7 = true := by simp [inB]; omega
  have e2 : inB (upH q.h q.c) 0 2000 = true := by simp [inB]; omega
  have e3 : inB q.c (-20) 20 = true := by simp [inB]; omega
  simp only [cfB, stp, e1, e2, e3, Bool.and_true]

/-- What holds ahead of a round holds ahead of the next, and fewer are left. -/
theorem FlI.next {k lx ly m : Int} {q : Kf} {s : Int} (i : FlI k lx ly m q s) (hb : nxB k lx ly m q s = true) (hc : cfB (stp q (nxD k lx ly q s)) = true) :
    FlI k lx ly m (stp q (nxD k lx ly q s)) (s + 1) ∧ flM k lx ly m (stp q (nxD k lx ly q s)) (s + 1) < flM k lx ly m q s := by
  have f := cfB_facts i.so
  have g := i.lg
  have s0 := i.s0
  have hs2 := i.s2
  have hs4 := i.s4
  have hup := i.up
  rcases lgB_kind i.lg with rfl | rfl | rfl | rfl | rfl
  · have hn : ¬ (q.x = lx ∧ q.y = ly) := of_decide_eq_true (show decide (¬ (q.x = lx ∧ q.y = ly)) = true from hb)
    have e : nxD 1 lx ly q s = dirOf (sgn (lx - q.x)) (sgn (ly - q.y)) := by show (if q.x = lx ∧ q.y = ly then q.d else dirOf (sgn (lx - q.x)) (sgn (ly - q.y))) = _; rw [if_neg hn]
    have hz : ¬ (sgn (lx - q.x) = 0 ∧ sgn (ly - q.y) = 0) := by
      intro h; apply hn
      unfold sgn at h
      constructor
      · have := h.1; split at this <;> (try split at this) <;> omega
      · have := h.2; split at this <;> (try split at this) <;> omega
    have dx := dirOf_x (sgn_in (lx - q.x)) (sgn_in (ly - q.y)) hz
    refine ⟨⟨hc, g, by omega, by omega, by omega, by omega⟩, ?_⟩
    show max (max (lx - (q.x + dirX (nxD 1 lx ly q s))) (q.x + dirX (nxD 1 lx ly q s) - lx)) (max (ly - (q.y + dirY (nxD 1 lx ly q s))) (q.y + dirY (nxD 1 lx ly q s) - ly)) < max (max (lx - q.x) (q.x - lx)) (max (ly - q.y) (q.y - ly))
    rw [e, dx.1, dx.2]
    unfold sgn
    split <;> (try split) <;> (try split) <;> (try split) <;> omega
  · have hn : s < m := of_decide_eq_true (show decide (s < m) = true from hb)
    refine ⟨⟨hc, g, by omega, by omega, by omega, by omega⟩, ?_⟩
    show m - (s + 1) < m - s
    omega
  · have hn : q.h < m := of_decide_eq_true (show decide (q.h < m) = true from hb)
    have hm := lgB_3 g
    have hcp : 0 < q.c := by have := hup rfl; omega
    have e : upH q.h q.c = q.h + q.c := by unfold upH; split <;> (try split) <;> omega
    refine ⟨⟨hc, g, by omega, by omega, by omega, fun _ => .inl hcp⟩, ?_⟩
    show max (m - upH q.h q.c) 0 < max (m - q.h) 0
    omega
  · have hn : s < 16 * m := of_decide_eq_true (show decide (s < 16 * m) = true from hb)
    refine ⟨⟨hc, g, by omega, by omega, by omega, by omega⟩, ?_⟩
    show 16 * m - (s + 1) < 16 * m - s
    omega
  · have hn : ¬ q.d = lx := of_decide_eq_true (show decide (¬ q.d = lx) = true from hb)
    have hg := lgB_5 g
    have e : nxD 5 lx ly q s = (q.d + ly + 8) % 8 := by show (if q.d = lx then q.d else (q.d + ly + 8) % 8) = _; rw [if_neg hn]
    refine ⟨⟨hc, g, by omega, by omega, by omega, by omega⟩, ?_⟩
    show ((lx - nxD 5 lx ly q s) * ly) % 8 < ((lx - q.d) * ly) % 8
    rw [e]
    rcases hg.2 with rfl | rfl <;> omega

theorem flM_start {k lx ly m : Int} {q : Kf} (h : (cfB q && lgB k lx ly m) = true) (n : nevB k m q = false) : FlI k lx ly m q 0 ∧ flM k lx ly m q 0 < 2001 := by
  simp only [Bool.and_eq_true] at h
  have f := cfB_facts h.1
  have hn : ¬ (k = 3 ∧ q.h < m ∧ q.c ≤ 0) := of_decide_eq_false n
  have g := h.2
  rcases lgB_kind h.2 with rfl | rfl | rfl | rfl | rfl
  · have b := lgB_1 g
    refine ⟨⟨h.1, g, by omega, by omega, by omega, by omega⟩, ?_⟩
    show max (max (lx - q.x) (q.x - lx)) (max (ly - q.y) (q.y - ly)) < 2001
    omega
  · have b := lgB_2 g
    refine ⟨⟨h.1, g, by omega, by omega, by omega, by omega⟩, ?_⟩
    show m - 0 < 2001
    omega
  · have b := lgB_3 g
    refine ⟨⟨h.1, g, by omega, by omega, by omega, fun _ => by omega⟩, ?_⟩
    show max (m - q.h) 0 < 2001
    omega
  · have b := lgB_4 g
    refine ⟨⟨h.1, g, by omega, by omega, by omega, by omega⟩, ?_⟩
    show 16 * m - 0 < 2001
    omega
  · refine ⟨⟨h.1, g, by omega, by omega, by omega, by omega⟩, ?_⟩
    show ((lx - q.d) * ly) % 8 < 2001
    omega

theorem FlI.nonneg {k lx ly m : Int} {q : Kf} {s : Int} (i : FlI k lx ly m q s) : 0 ≤ flM k lx ly m q s := by
  rcases lgB_kind i.lg with rfl | rfl | rfl | rfl | rfl
  · show 0 ≤ max (max (lx - q.x) (q.x - lx)) (max (ly - q.y) (q.y - ly)); omega
  · have := i.s2 rfl; show 0 ≤ m - s; omega
  · show 0 ≤ max (m - q.h) 0; omega
  · have := i.s4 rfl; show 0 ≤ 16 * m - s; omega
  · show 0 ≤ ((lx - q.d) * ly) % 8; omega

/-- The rounds of a leg: what is left of them, and what comes out. -/
structure FlA (k lx ly m : Int) (q0 : Kf) (R : Kf × Int × Int) (n : Nat) (q : Kf) (s : Int) : Prop where
  i : FlI k lx ly m q s
  lt : flM k lx ly m q s < (n : Int)
  sn : s + n = 2001
  out : flN k lx ly m q0 n q s = R

theorem FlA.start {k lx ly m : Int} {q : Kf} (h : (cfB q && lgB k lx ly m) = true) (n : nevB k m q = false) : FlA k lx ly m q (flR k lx ly m q) 2001 q 0 := by
  have a := flM_start h n
  exact ⟨a.1, a.2, by omega, (flR_on h n).symm⟩

/-- A round more. -/
theorem FlA.more {k lx ly m : Int} {q0 : Kf} {R : Kf × Int × Int} {n : Nat} {q : Kf} {s : Int} (a : FlA k lx ly m q0 R n q s) (hb : nxB k lx ly m q s = true) :
    ∃ r, n = r + 1 ∧ (cfB (stp q (nxD k lx ly q s)) = true → FlA k lx ly m q0 R r (stp q (nxD k lx ly q s)) (s + 1)) ∧ (cfB (stp q (nxD k lx ly q s)) = false → R = (q0, 0, 2)) := by
  have hp := a.i.nonneg
  have hl := a.lt
  have hs := a.sn
  obtain ⟨r, rfl⟩ : ∃ r, n = r + 1 := ⟨n - 1, by omega⟩
  have ho := a.out
  simp only [flN, hb, if_true] at ho
  refine ⟨r, rfl, fun hc => ?_, fun hc => ?_⟩
  · have b := a.i.next hb hc
    rw [hc, if_pos rfl] at ho
    exact ⟨b.1, by have := b.2; omega, by omega, ho⟩
  · rw [hc] at ho
    exact ho.symm

theorem FlA.lt_n {k lx ly m : Int} {q0 : Kf} {R : Kf × Int × Int} {n : Nat} {q : Kf} {s : Int} (a : FlA k lx ly m q0 R n q s) : 0 ≤ s ∧ s ≤ 2000 := by
  have hp := a.i.nonneg
  have hl := a.lt
  have hs := a.sn
  have h0 := a.i.s0
  omega

/-- The last round. -/
theorem FlA.last {k lx ly m : Int} {q0 : Kf} {R : Kf × Int × Int} {n : Nat} {q : Kf} {s : Int} (a : FlA k lx ly m q0 R n q s) (hb : nxB k lx ly m q s = false) :
    R = (⟨q.x, q.y, nxD k lx ly q s, q.h, q.c⟩, s, 0) := by
  have hp := a.i.nonneg
  have hl := a.lt
  obtain ⟨r, rfl⟩ : ∃ r, n = r + 1 := ⟨n - 1, by omega⟩
  have ho := a.out
  simp only [flN, hb, Bool.false_eq_true, if_false] at ho
  exact ho.symm

end Go.Proofs.Ytglefolkecimabd

namespace Go.Proofs.Ytglefolkecimabd
open Go.RowKit

/-- The test of a pilot. -/
def apOk (p : Pl) : Bool := inB p.a0 0 4 && inB p.a1 0 3 && inB p.a2 0 60000 && inB p.a3 0 60000 && inB p.a4 (-100) 100 && inB p.a5 0 359 && inB p.a6 0 359 && inB p.a7 (-10000) 10000
/-- Whether a rate leads from a height to a target. -/
def leadB (h t r : Int) : Bool := decide ((0 < r ∧ h < t) ∨ (r < 0 ∧ t < h))
/-- From a number toward another one, by at most n. -/
def tow (x y n : Int) : Int := if x < y then min y (x + n) else max y (x - n)
/-- A step of a heading. -/
def turnR (a b : Int) : Int :=
  if 180 < (b - a) % 360 then (a - min 3 (360 - (b - a) % 360)) % 360 else (a + min 3 ((b - a) % 360)) % 360
/-- The mode, the height and the rate behind a tick. -/
def vtT (v h t r : Int) : Int × Int × Int :=
  if v = 0 then (0, max 0 (min 60000 (h + r)), r)
  else if v = 2 then (if r = 0 then (2, h, r) else if leadB (h + r) t r = true then (if (t - (h + r)).natAbs ≤ 10 * (r.natAbs : Int) then (3, h + r, r) else (2, h + r, r)) else (1, t, 0))
  else if v = 3 then (if tow h t (max 1 (((r.natAbs : Int) + 1).tdiv 2)) = t then (1, t, 0) else (3, tow h t (max 1 (((r.natAbs : Int) + 1).tdiv 2)), r))
  else (v, h, r)
/-- The mode, the heading, what lies beside and what is armed behind a tick. -/
def ltT (l a b o : Int) (m : Bool) : Int × Int × Int × Bool :=
  if l = 1 then (if m = true ∧ (o.natAbs : Int) ≤ 50 then (3, turnR a b, o, false) else (1, turnR a b, o, m))
  else if l = 3 then (if tow o 0 10 = 0 then (2, a, 0, m) else (3, a, tow o 0 10, m))
  else if l = 2 then (if (o.natAbs : Int) ≤ 20 then (2, a, 0, m) else (3, a, o, m))
  else (l, a, o, m)
/-- What lies beside, with a drift, held. -/
def offR (o d : Int) : Int := max (-10000) (min 10000 (o + d))
def okT (p : Pl) (d : Int) : Bool := apOk p && inB d (-100) 100
/-- The pilot behind a tick; the zero value where it is not so. -/
def tickP (p : Pl) (d : Int) : Pl :=
  if okT p d = true then
    ⟨(vtT p.a0 p.a2 p.a3 p.a4).1, (ltT p.a1 p.a5 p.a6 (offR p.a7 d) p.a8).1, (vtT p.a0 p.a2 p.a3 p.a4).2.1, p.a3, (vtT p.a0 p.a2 p.a3 p.a4).2.2, (ltT p.a1 p.a5 p.a6 (offR p.a7 d) p.a8).2.1, p.a6, (ltT p.a1 p.a5 p.a6 (offR p.a7 d) p.a8).2.2.1, (ltT p.a1 p.a5 p.a6 (offR p.a7 d) p.a8).2.2.2⟩
  else ⟨0, 0, 0, 0, 0, 0, 0, 0, false⟩

/-- A pilot as a value. -/
abbrev plV (p : Pl) : Value := .agg #[.int .i64 p.a0, .int .i64 p.a1, .int .i64 p.a2, .int .i64 p.a3, .int .i64 p.a4, .int .i64 p.a5, .int .i64 p.a6, .int .i64 p.a7, .bool p.a8]
theorem ret_pl {p q : Pl} (h : p = q) : Ending.returned (plV p) = .returned (plV q) := by rw [h]
theorem ret_plb {p q : Pl} {b c : Bool} (h : p = q) (h2 : b = c) : Ending.returned (.tuple #[plV p, .bool b]) = .returned (.tuple #[plV q, .bool c]) := by rw [h, h2]
theorem apOk_facts {v l h t r a b o : Int} {m : Bool} (hk : apOk ⟨v, l, h, t, r, a, b, o, m⟩ = true) : (0 ≤ v ∧ v ≤ 4) ∧ (0 ≤ l ∧ l ≤ 3) ∧ (0 ≤ h ∧ h ≤ 60000) ∧ (0 ≤ t ∧ t ≤ 60000) ∧ (-100 ≤ r ∧ r ≤ 100) ∧ (0 ≤ a ∧ a ≤ 359) ∧ (0 ≤ b ∧ b ≤ 359) ∧ (-10000 ≤ o ∧ o ≤ 10000) := by
  simp only [apOk, Bool.and_eq_true] at hk
  obtain ⟨⟨⟨⟨⟨⟨⟨h0, h1⟩, h2⟩, h3⟩, h4⟩, h5⟩, h6⟩, h7⟩ := hk
  exact ⟨in_facts h0, in_facts h1, in_facts h2, in_facts h3, in_facts h4, in_facts h5, in_facts h6, in_facts h7⟩

end Go.Proofs.Ytglefolkecimabd
