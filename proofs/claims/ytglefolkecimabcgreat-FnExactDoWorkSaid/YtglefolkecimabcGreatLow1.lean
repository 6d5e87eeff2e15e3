/-
  Plain mathematics: bounds on products, and the lesser neighbour of a place in a list. No program here.
  What a name is: 1 to 20 bytes, each a letter, a digit or '-', in plain numbers. No program here.
  Clocks, tasks, what is due, what may be carried, in plain numbers. No program here.
-/
import Derived.Test.YtglefolkecimabcGreatBase
import Derived.Test.YtglefolkecimabcGreatLists1

namespace Go.Proofs.YtglefolkecimabcGreat

theorem mulBd {s d A B : Int} (h1 : -A ≤ s) (h2 : s ≤ A) (h3 : -B ≤ d) (h4 : d ≤ B) (_hA : 0 ≤ A) (_hB : 0 ≤ B) : -(A * B) ≤ s * d ∧ s * d ≤ A * B := by
  have e1 : 0 ≤ (A - s) * (B - d) := Int.mul_nonneg (by omega) (by omega)
  have e2 : 0 ≤ (A + s) * (B + d) := Int.mul_nonneg (by omega) (by omega)
  have e3 : 0 ≤ (A - s) * (B + d) := Int.mul_nonneg (by omega) (by omega)
  have e4 : 0 ≤ (A + s) * (B - d) := Int.mul_nonneg (by omega) (by omega)
  simp only [Int.sub_mul, Int.add_mul, Int.mul_sub, Int.mul_add] at e1 e2 e3 e4
  constructor <;> omega

/-- Whether the place of the lesser neighbour is behind i. -/
def beyond (zs : List Int) (x : Int) (i : Nat) : Bool := decide (i + 2 < zs.length ∧ nth zs (i + 1) ≤ x)
def lowAt (zs : List Int) (x : Int) : Nat := ((List.range zs.length).find? fun i => !beyond zs x i).getD 0

theorem beyond_true {zs : List Int} {x : Int} {i : Nat} (h : i + 2 < zs.length) (h' : nth zs (i + 1) ≤ x) : beyond zs x i = true := by
  simp only [beyond, decide_eq_true_eq]; exact ⟨h, h'⟩
theorem beyond_end {zs : List Int} {x : Int} {i : Nat} (h : ¬ i + 2 < zs.length) : beyond zs x i = false := by
  simp only [beyond, decide_eq_false_iff_not]; exact fun k => h k.1
theorem beyond_less {zs : List Int} {x : Int} {i : Nat} (h : ¬ nth zs (i + 1) ≤ x) : beyond zs x i = false := by
  simp only [beyond, decide_eq_false_iff_not]; exact fun k => h k.2
theorem lowAt_is {zs : List Int} {x : Int} {k : Nat} (hk : k < zs.length) (h : beyond zs x k = false) (hb : ∀ j, j < k → beyond zs x j = true) : lowAt zs x = k := by
  unfold lowAt
  have : (List.range zs.length).find? (fun i => !beyond zs x i) = some k := by
    rw [List.find?_range_eq_some]
    refine ⟨by simp [h], by simpa using hk, fun j hj => ?_⟩
    simp [hb j hj]
  rw [this]; rfl

/-- The lesser neighbour has one behind it. -/
theorem lowAt_lt {zs : List Int} {x : Int} (h : 2 ≤ zs.length) : lowAt zs x + 2 ≤ zs.length := by
  have he : beyond zs x (zs.length - 2) = false := beyond_end (by omega)
  unfold lowAt
  cases hf : (List.range zs.length).find? (fun i => !beyond zs x i) with
  | none => simp; omega
  | some i =>
    rw [List.find?_range_eq_some] at hf
    have := hf.2.2 (zs.length - 2)
    rw [he] at this
    simp only [Option.getD_some]
    by_cases c : zs.length - 2 < i
    · have := this c; simp at this
    · omega

/-- The products and sums of one value between two neighbours. -/
theorem between_bd {x0 x1 y0 y1 x B C : Int} (h1 : -B ≤ x0 ∧ x0 ≤ B) (h2 : -B ≤ x1 ∧ x1 ≤ B) (h3 : -C ≤ y0 ∧ y0 ≤ C) (h4 : -C ≤ y1 ∧ y1 ≤ C) (h5 : -B ≤ x ∧ x ≤ B) :
    (-(C * (2 * B)) ≤ y0 * (x1 - x0) ∧ y0 * (x1 - x0) ≤ C * (2 * B)) ∧ (-(2 * C * (2 * B)) ≤ (y1 - y0) * (x - x0) ∧ (y1 - y0) * (x - x0) ≤ 2 * C * (2 * B)) := by
  exact ⟨mulBd (by omega) (by omega) (by omega) (by omega) (by omega) (by omega), mulBd (by omega) (by omega) (by omega) (by omega) (by omega) (by omega)⟩

theorem ret_pair1 {k : IntKind} {a b : Int} {c : Bool} (h : a = b) : Ending.returned (.tuple #[.int k a, .bool c]) = .returned (.tuple #[.int k b, .bool c]) := by rw [h]

theorem ret_ib {a b : Int} {c d : Bool} (h : a = b) (h2 : c = d) : Ending.returned (.tuple #[.int .i64 a, .bool c]) = .returned (.tuple #[.int .i64 b, .bool d]) := by rw [h, h2]

theorem in_facts {x a b : Int} (h : inB x a b = true) : a ≤ x ∧ x ≤ b := by simpa [inB] using h

end Go.Proofs.YtglefolkecimabcGreat

namespace Go.Proofs.YtglefolkecimabcGreat
open Go

/-- Whether a byte may stand in a name. -/
def byteB (c : Int) : Bool := inB c 97 122 || inB c 65 90 || inB c 48 57 || decide (c = 45)
/-- The byte at a place of a text; 0 where there is none. -/
def byAt (s : ByteArray) (i : Nat) : Int := if h : i < s.size then ((s[i]'h).toNat : Int) else 0
theorem byAt_is {s : ByteArray} {i : Nat} (h : i < s.size) : ((s[i]'h).toNat : Int) = byAt s i := by simp [byAt, h]
theorem byAt_bd (s : ByteArray) (i : Nat) : 0 ≤ byAt s i ∧ byAt s i ≤ 255 := by
  unfold byAt
  split
  · rename_i h
    have := (s[i]'h).toNat_lt
    omega
  · omega
/-- Whether a text is a name. -/
def nameB (s : ByteArray) : Bool := inB s.size 1 20 && decide (∀ i, i < s.size → byteB (byAt s i) = true)
theorem nameB_size {s : ByteArray} (h : inB s.size 1 20 = false) : nameB s = false := by simp [nameB, h]
theorem nameB_at {s : ByteArray} {i : Nat} (hi : i < s.size) (h : byteB (byAt s i) = false) : nameB s = false := by
  have : ¬ (∀ i, i < s.size → byteB (byAt s i) = true) := fun k => by have := k i hi; rw [h] at this; cases this
  simp [nameB, this]
theorem nameB_all {s : ByteArray} (h : ∀ i, i < s.size → byteB (byAt s i) = true) : nameB s = inB s.size 1 20 := by
  have : decide (∀ i, i < s.size → byteB (byAt s i) = true) = true := decide_eq_true h
  unfold nameB
  rw [this, Bool.and_true]
theorem nameB_facts {s : ByteArray} (h : nameB s = true) : 1 ≤ s.size ∧ s.size ≤ 20 := by
  simp [nameB, inB] at h; omega

end Go.Proofs.YtglefolkecimabcGreat

namespace Go.Proofs.YtglefolkecimabcGreat
open Go Go.RowKit

/-- Whether a clock is so. -/
def ckB (h c d : Int) : Bool := inB h 0 1000000 && inB c 0 1000000 && inB d 0 1000000
theorem ckB_facts {h c d : Int} (k : ckB h c d = true) : (0 ≤ h ∧ h ≤ 1000000) ∧ (0 ≤ c ∧ c ≤ 1000000) ∧ (0 ≤ d ∧ d ≤ 1000000) := by
  simp only [ckB, inB, Bool.and_eq_true, decide_eq_true_eq] at k
  exact ⟨k.1.1, k.1.2, k.2⟩
/-- What a task says: its name, three bounds, when it was done. -/
structure Ts where
  nm : ByteArray
  h : Int
  c : Int
  d : Int
  dh : Int
  dc : Int
  dd : Int
instance : Inhabited Ts := ⟨⟨⟨#[]⟩, 0, 0, 0, 0, 0, 0⟩⟩
def tsB (t : Ts) : Bool := nameB t.nm && inB t.h 0 100000 && inB t.c 0 100000 && inB t.d 0 100000 && decide (0 < t.h + t.c + t.d) && ckB t.dh t.dc t.dd
theorem tsB_facts {t : Ts} (k : tsB t = true) : nameB t.nm = true ∧ (0 ≤ t.h ∧ t.h ≤ 100000) ∧ (0 ≤ t.c ∧ t.c ≤ 100000) ∧ (0 ≤ t.d ∧ t.d ≤ 100000) ∧ 0 < t.h + t.c + t.d ∧ ckB t.dh t.dc t.dd = true := by
  simp only [tsB, inB, Bool.and_eq_true, decide_eq_true_eq] at k
  obtain ⟨⟨⟨⟨⟨k1, k2⟩, k3⟩, k4⟩, k5⟩, k6⟩ := k
  exact ⟨k1, k2, k3, k4, k5, k6⟩
/-- Whether one clock is not beyond another. -/
def bhB (ah ac ad bh bc bd : Int) : Bool := decide (ah ≤ bh) && decide (ac ≤ bc) && decide (ad ≤ bd)
/-- What is left of a bound. -/
def lfI (b p : Int) : Int := if b = 0 then 0 else max 0 (b - p)
/-- Whether a task can be asked, whether it is due, what is left. -/
def d9B (t : Ts) (nh nc nd : Int) : Bool := tsB t && ckB nh nc nd && bhB t.dh t.dc t.dd nh nc nd
def d9D (t : Ts) (nh nc nd : Int) : Bool := d9B t nh nc nd && (decide (0 < t.h ∧ t.h ≤ nh - t.dh) || decide (0 < t.c ∧ t.c ≤ nc - t.dc) || decide (0 < t.d ∧ t.d ≤ nd - t.dd))
def d9H (t : Ts) (nh nc nd : Int) : Int := if d9B t nh nc nd = true then lfI t.h (nh - t.dh) else 0
def d9C (t : Ts) (nh nc nd : Int) : Int := if d9B t nh nc nd = true then lfI t.c (nc - t.dc) else 0
def d9E (t : Ts) (nh nc nd : Int) : Int := if d9B t nh nc nd = true then lfI t.d (nd - t.dd) else 0

end Go.Proofs.YtglefolkecimabcGreat
