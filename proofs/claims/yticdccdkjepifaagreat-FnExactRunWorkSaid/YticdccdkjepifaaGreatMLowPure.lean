/-
  Plain mathematics: bounds on products, and the lesser neighbour of a place in a list. No program here.
  What a name is: 1 to 20 bytes, each a letter, a digit or '-', in plain numbers. No program here.
  Clocks, tasks, what is due, what may be carried, in plain numbers. No program here.
  Rules of warnings as a Lean structure: a name, a rank, the phases in which it is quiet, whether it latches, what it needs. No program here.
  Rules of warnings in plain terms: which one has a name, whether they are so, which are quiet in a phase, how loud names are. No program here.
  What the small functions on whole numbers and their lists answer (l1In, l1All, l1Rise of the model; within, allWithin, ascending of the program; szIntS, eqIntS, toIntS of the law): at every argument, with no memory written that was there.
-/
import Derived.Test.YticdccdkjepifaaGreatMBase
import Derived.Test.YticdccdkjepifaaGreatChecked

namespace Go.Proofs.YticdccdkjepifaaGreat

theorem mulBd {s d A B : Int} (h1 : -A ≤ s) (h2 : s ≤ A) (h3 : -B ≤ d) (h4 : d ≤ B) (_hA : 0 ≤ A) (_hB : 0 ≤ B) : -(A * B) ≤ s * d ∧ s * d ≤ A * B := by
  have e1 : 0 ≤ (A - s) * (B - d) := Int.mul_nonneg (by omega) (by omega)
  have e2 : 0 ≤ (A + s) * (B + d) := Int.mul_nonneg (by omega) (by omega)
  have e3 : 0 ≤ (A - s) * (B + d) := Int.mul_nonneg (by omega) (by omega)
  have e4 : 0 ≤ (A + s) * (B - d) := Int.mul_nonneg (by omega) (by omega)
  simp only [Int.sub_mul, Int.add_mul, Int.mul_sub, Int.mul_add] at e1 e2 e3 e4
  constructor <;> omega

/-- Whether the place of the lesser neighbour is behind i. -/
def beyond (zs : List Int) (x : Int) (i : Nat) : Bool := decide (i + 2 < zs.length ∧ nth zs (i + 1) ≤ x)
def lowAt (zs : List Int) (x : Int) : Nat := ((List.range zs.length).find? fun i => !beyond zs x i).getD 0

theorem beyond_true {zs : List Int} {x : Int} {i : Nat} (h : i + 2 < zs.length) (h' : nth zs (i + 1) ≤ x) : beyond zs x i = true := by
  simp only [beyond, decide_eq_true_eq]; exact ⟨h, h'⟩
theorem beyond_end {zs : List Int} {x : Int} {i : Nat} (h : ¬ i + 2 < zs.length) : beyond zs x i = false := by
  simp only [beyond, decide_eq_false_iff_not]; exact fun k => h k.1
theorem beyond_less {zs : List Int} {x : Int} {i : Nat} (h : ¬ nth zs (i + 1) ≤ x) : beyond zs x i = false := by
  simp only [beyond, decide_eq_false_iff_not]; exact fun k => h k.2
theorem lowAt_is {zs : List Int} {x : Int} {k : Nat} (hk : k < zs.length) (h : beyond zs x k = false) (hb : ∀ j, j < k → beyond zs x j = true) : lowAt zs x = k := by
  unfold lowAt
  have : (List.range zs.length).find? (fun i => !beyond zs x i) = some k := by
    rw [List.find?_range_eq_some]
    refine ⟨by simp [h], by simpa using hk, fun j hj => ?_⟩
    simp [hb j hj]
  rw [this]; rfl

/-- The lesser neighbour has one behind it. -/
theorem lowAt_lt {zs : List Int} {x : Int} (h : 2 ≤ zs.length) : lowAt zs x + 2 ≤ zs.length := by
  have he : beyond zs x (zs.length - 2) = false := beyond_end (by omega)
  unfold lowAt
  cases hf : (List.range zs.length).find? (fun i => !beyond zs x i) with
  | none => simp; omega
  | some i =>
    rw [List.find?_range_eq_some] at hf
    have := hf.2.2 (zs.length - 2)
    rw [he] at this
    simp only [Option.getD_some]
    by_cases c : zs.length - 2 < i
    · have := this c; simp at this
    · omega

/-- The products and sums of one value between two neighbours. -/
theorem between_bd {x0 x1 y0 y1 x B C : Int} (h1 : -B ≤ x0 ∧ x0 ≤ B) (h2 : -B ≤ x1 ∧ x1 ≤ B) (h3 : -C ≤ y0 ∧ y0 ≤ C) (h4 : -C ≤ y1 ∧ y1 ≤ C) (h5 : -B ≤ x ∧ x ≤ B) :
    (-(C * (2 * B)) ≤ y0 * (x1 - x0) ∧ y0 * (x1 - x0) ≤ C * (2 * B)) ∧ (-(2 * C * (2 * B)) ≤ (y1 - y0) * (x - x0) ∧ (y1 - y0) * (x - x0) ≤ 2 * C * (2 * B)) := by
  exact ⟨mulBd (by omega) (by omega) (by omega) (by omega) (by omega) (by omega), mulBd (by omega) (by omega) (by omega) (by omega) (by omega) (by omega)⟩

theorem ret_pair1 {k : IntKind} {a b : Int} {c : Bool} (h : a = b) : Ending.returned (.tuple #[.int k a, .bool c]) = .returned (.tuple #[.int k b, .bool c]) := by rw [h]

theorem ret_ib {a b : Int} {c d : Bool} (h : a = b) (h2 : c = d) : Ending.returned (.tuple #[.int .i64 a, .bool c]) = .returned (.tuple #[.int .i64 b, .bool d]) := by rw [h, h2]

theorem in_facts {x a b : Int} (h : inB x a b = true) : a ≤ x ∧ x ≤ b := by simpa [inB] using h

end Go.Proofs.YticdccdkjepifaaGreat

namespace Go.Proofs.YticdccdkjepifaaGreat
open Go

/-- Whether a byte may stand in a name. -/
def byteB (c : Int) : Bool := inB c 97 122 || inB c 65 90 || inB c 48 57 || decide (c = 45)
/-- The byte at a place of a text; 0 where there is none. -/
def byAt (s : ByteArray) (i : Nat) : Int := if h : i < s.size then ((s[i]'h).toNat : Int) else 0
theorem byAt_is {s : ByteArray} {i : Nat} (h : i < s.size) : ((s[i]'h).toNat : Int) = byAt s i := by simp [byAt, h]
theorem byAt_bd (s : ByteArray) (i : Nat) : 0 ≤ byAt s i ∧ byAt s i ≤ 255 := by
  unfold byAt
  split
  · rename_i h
    have := (s[i]'h).toNat_lt
    omega
  · omega
/-- Whether a text is a name. -/
def nameB (s : ByteArray) : Bool := inB s.size 1 20 && decide (∀ i, i < s.size → byteB (byAt s i) = true)
theorem nameB_size {s : ByteArray} (h : inB s.size 1 20 = false) : nameB s = false := by simp [nameB, h]
theorem nameB_at {s : ByteArray} {i : Nat} (hi : i < s.size) (h : byteB (byAt s i) = false) : nameB s = false := by
  have : ¬ (∀ i, i < s.size → byteB (byAt s i) = true) := fun k => by have := k i hi; rw [h] at this; cases this
  simp [nameB, this]
theorem nameB_all {s : ByteArray} (h : ∀ i, i < s.size → byteB (byAt s i) = true) : nameB s = inB s.size 1 20 := by
  have : decide (∀ i, i < s.size → byteB (byAt s i) = true) = true := decide_eq_true h
  unfold nameB
  rw [this, Bool.and_true]
theorem nameB_facts {s : ByteArray} (h : nameB s = true) : 1 ≤ s.size ∧ s.size ≤ 20 := by
  simp [nameB, inB] at h; omega

end Go.Proofs.YticdccdkjepifaaGreat

namespace Go.Proofs.YticdccdkjepifaaGreat
open Go Go.RowKit

/-- Whether a clock is so. -/
def ckB (h c d : Int) : Bool := inB h 0 1000000 && inB c 0 1000000 && inB d 0 1000000
theorem ckB_facts {h c d : Int} (k : ckB h c d = true) : (0 ≤ h ∧ h ≤ 1000000) ∧ (0 ≤ c ∧ c ≤ 1000000) ∧ (0 ≤ d ∧ d ≤ 1000000) := by
  simp only [ckB, inB, Bool.and_eq_true, decide_eq_true_eq] at k
  exact ⟨k.1.1, k.1.2, k.2⟩
/-- What a task says: its name, three bounds, when it was done. -/
structure Ts where
  nm : ByteArray
  h : Int
  c : Int
  d : Int
  dh : Int
  dc : Int
  dd : Int
instance : Inhabited Ts := ⟨⟨⟨#[]⟩, 0, 0, 0, 0, 0, 0⟩⟩
def tsB (t : Ts) : Bool := nameB t.nm && inB t.h 0 100000 && inB t.c 0 100000 && inB t.d 0 100000 && decide (0 < t.h + t.c + t.d) && ckB t.dh t.dc t.dd
theorem tsB_facts {t : Ts} (k : tsB t = true) : nameB t.nm = true ∧ (0 ≤ t.h ∧ t.h ≤ 100000) ∧ (0 ≤ t.c ∧ t.c ≤ 100000) ∧ (0 ≤ t.d ∧ t.d ≤ 100000) ∧ 0 < t.h + t.c + t.d ∧ ckB t.dh t.dc t.dd = true := by
  simp only [tsB, inB, Bool.and_eq_true, decide_eq_true_eq] at k
  obtain ⟨⟨⟨⟨⟨k1, k2⟩, k3⟩, k4⟩, k5⟩, k6⟩ := k
  exact ⟨k1, k2, k3, k4, k5, k6⟩
/-- Whether one clock is not beyond another. -/
def bhB (ah ac ad bh bc bd : Int) : Bool := decide (ah ≤ bh) && decide (ac ≤ bc) && decide (ad ≤ bd)
/-- What is left of a bound. -/
def lfI (b p : Int) : Int := if b = 0 then 0 else max 0 (b - p)
/-- Whether a task can be asked, whether it is due, what is left. -/
def d9B (t : Ts) (nh nc nd : Int) : Bool := tsB t && ckB nh nc nd && bhB t.dh t.dc t.dd nh nc nd
def d9D (t : Ts) (nh nc nd : Int) : Bool := d9B t nh nc nd && (decide (0 < t.h ∧ t.h ≤ nh - t.dh) || decide (0 < t.c ∧ t.c ≤ nc - t.dc) || decide (0 < t.d ∧ t.d ≤ nd - t.dd))
def d9H (t : Ts) (nh nc nd : Int) : Int := if d9B t nh nc nd = true then lfI t.h (nh - t.dh) else 0
def d9C (t : Ts) (nh nc nd : Int) : Int := if d9B t nh nc nd = true then lfI t.c (nc - t.dc) else 0
def d9E (t : Ts) (nh nc nd : Int) : Int := if d9B t nh nc nd = true then lfI t.d (nd - t.dd) else 0

end Go.Proofs.YticdccdkjepifaaGreat

namespace Go.Proofs.YticdccdkjepifaaGreat
open Go

structure Wr where
  n : ByteArray
  r : Int
  q : List Int
  l : Bool
  d : ByteArray
instance : Inhabited Wr := ⟨⟨⟨#[]⟩, 0, [], false, ⟨#[]⟩⟩⟩
/-- The first k phases together. -/
def wrTot (rs : List Wr) : Nat → Nat
  | 0 => 0
  | k + 1 => wrTot rs k + (elAt rs k).q.length
theorem wrTot_mono (rs : List Wr) {k m : Nat} (h : k ≤ m) : wrTot rs k ≤ wrTot rs m := by
  induction m with
  | zero => obtain rfl : k = 0 := by omega
            exact Nat.le_refl _
  | succ m ih =>
    by_cases e : k = m + 1
    · rw [e]; exact Nat.le_refl _
    · exact Nat.le_trans (ih (by omega)) (Nat.le_add_right _ _)

end Go.Proofs.YticdccdkjepifaaGreat

namespace Go.Proofs.YticdccdkjepifaaGreat
open Go

/-- Texts alike. -/
def sEq (x y : ByteArray) : Bool := x.toList == y.toList
/-- The place of the first rule of a name; as many as there are, where there is none. -/
def wfK (rs : List Wr) (s : ByteArray) : Nat := ((List.range rs.length).find? fun i => sEq (elAt rs i).n s).getD rs.length
def wfI (rs : List Wr) (s : ByteArray) : Int := if wfK rs s < rs.length then (wfK rs s : Int) else -1
theorem wfK_here {rs : List Wr} {s : ByteArray} {k : Nat} (hk : k < rs.length) (h : sEq (elAt rs k).n s = true) (hb : ∀ j, j < k → sEq (elAt rs j).n s = false) : wfK rs s = k := by
  unfold wfK
  have : (List.range rs.length).find? (fun i => sEq (elAt rs i).n s) = some k := by
    rw [List.find?_range_eq_some]
    refine ⟨h, by simpa using hk, fun j hj => ?_⟩
    have := hb j hj
    simp [this]
  rw [this]; rfl
theorem wfK_none {rs : List Wr} {s : ByteArray} (hb : ∀ j, j < rs.length → sEq (elAt rs j).n s = false) : wfK rs s = rs.length := by
  unfold wfK
  have : (List.range rs.length).find? (fun i => sEq (elAt rs i).n s) = none := by
    rw [List.find?_eq_none]
    intro j hj
    have := hb j (by simpa using hj)
    simp [this]
  rw [this]; rfl
theorem wfK_le (rs : List Wr) (s : ByteArray) : wfK rs s ≤ rs.length := by
  unfold wfK
  cases e : (List.range rs.length).find? fun i => sEq (elAt rs i).n s with
  | none => simp
  | some k =>
    rw [List.find?_range_eq_some] at e
    have := List.mem_range.1 e.2.1
    simp; omega
/-- Whether a phase is among the quiet ones. -/
def qtB (q : List Int) (ph : Int) : Bool := decide (∃ i, i < q.length ∧ nth q i = ph)
theorem qtB_yes {q : List Int} {ph : Int} {i : Nat} (h : i < q.length) (e : nth q i = ph) : qtB q ph = true := decide_eq_true ⟨i, h, e⟩
theorem qtB_no {q : List Int} {ph : Int} (h : ∀ i, i < q.length → ¬ nth q i = ph) : qtB q ph = false := decide_eq_false (fun ⟨i, hi, e⟩ => h i hi e)
/-- Texts in their order. -/
def sLt (x y : ByteArray) : Bool := Op.bytesLess x.toList y.toList
/-- Whether what a rule needs is so. -/
def wrDB (rs : List Wr) (i : Nat) : Bool := sEq (elAt rs i).d ⟨#[]⟩ || (decide (wfK rs (elAt rs i).d < rs.length) && decide (¬ wfK rs (elAt rs i).d = i) && sEq (elAt rs (wfK rs (elAt rs i).d)).d ⟨#[]⟩)
/-- Whether a rule by itself, and behind the one ahead, is so. -/
def wrSB (rs : List Wr) (i : Nat) : Bool := nameB (elAt rs i).n && (decide (i = 0) || sLt (elAt rs (i - 1)).n (elAt rs i).n) && inB (elAt rs i).r 1 3 && riseB (elAt rs i).q && allB (elAt rs i).q 0 9
def wrAtB (rs : List Wr) (i : Nat) : Bool := wrSB rs i && wrDB rs i
/-- Whether rules are so. -/
def wrB (rs : List Wr) : Bool := decide (∀ i, i < rs.length → wrAtB rs i = true) && decide (rs.length ≤ 30)
theorem wrB_not {rs : List Wr} {i : Nat} (hi : i < rs.length) (h : wrAtB rs i = false) : wrB rs = false := by
  have : ¬ ∀ i, i < rs.length → wrAtB rs i = true := fun k => by have := k i hi; rw [h] at this; cases this
  simp [wrB, this]
theorem wrB_all {rs : List Wr} (h : ∀ i, i < rs.length → wrAtB rs i = true) : wrB rs = decide (rs.length ≤ 30) := by
  have e : decide (∀ i, i < rs.length → wrAtB rs i = true) = true := decide_eq_true h
  unfold wrB; rw [e, Bool.true_and]
/-- The greatest rank of the first k names. -/
def loK (rs : List Wr) (ts : List ByteArray) : Nat → Int
  | 0 => 0
  | k + 1 => if wfK rs (elAt ts k) < rs.length then max (loK rs ts k) (elAt rs (wfK rs (elAt ts k))).r else loK rs ts k
def loB (rs : List Wr) (ts : List ByteArray) : Bool := wrB rs && decide (ts.length ≤ 30)
def loR (rs : List Wr) (ts : List ByteArray) : Int := if loB rs ts = true then loK rs ts ts.length else 0
/-- The names of the first k rules that are quiet in a phase. -/
def inhK (rs : List Wr) (ph : Int) : Nat → List ByteArray
  | 0 => []
  | k + 1 => if qtB (elAt rs k).q ph = true then inhK rs ph k ++ [(elAt rs k).n] else inhK rs ph k
theorem inhK_len (rs : List Wr) (ph : Int) : ∀ k, (inhK rs ph k).length ≤ k
  | 0 => Nat.le_refl _
  | k + 1 => by
    have := inhK_len rs ph k
    unfold inhK
    split
    · simp; omega
    · omega
def inhB (rs : List Wr) (ph : Int) : Bool := wrB rs && inB ph 0 9
def inhL (rs : List Wr) (ph : Int) : List ByteArray := if inhB rs ph = true then inhK rs ph rs.length else []
theorem wrB_facts {rs : List Wr} (h : wrB rs = true) : (∀ i, i < rs.length → wrAtB rs i = true) ∧ rs.length ≤ 30 := by
  simp only [wrB, Bool.and_eq_true, decide_eq_true_eq] at h
  exact h
theorem wrR_facts {rs : List Wr} (h : wrB rs = true) {i : Nat} (hi : i < rs.length) : 1 ≤ (elAt rs i).r ∧ (elAt rs i).r ≤ 3 := by
  have := (wrB_facts h).1 i hi
  unfold wrAtB wrSB at this
  simp only [Bool.and_eq_true] at this
  exact in_facts this.1.1.1.2
theorem loK_bd {rs : List Wr} (h : wrB rs = true) (ts : List ByteArray) : ∀ k, 0 ≤ loK rs ts k ∧ loK rs ts k ≤ 3
  | 0 => by simp [loK]
  | k + 1 => by
    have ih := loK_bd h ts k
    unfold loK
    split
    · rename_i hk
      have := wrR_facts h hk
      omega
    · exact ih
theorem rise_ge {q : List Int} (h : riseB q = true) (h0 : allB q 0 9 = true) : ∀ i, i < q.length → (i : Int) ≤ nth q i
  | 0, hi => by
    have := in_facts (of_decide_eq_true h0 0 hi)
    omega
  | i + 1, hi => by
    have ih := rise_ge h h0 i (by omega)
    have := of_decide_eq_true h i (by omega)
    omega
theorem wrQ_len {rs : List Wr} (h : wrB rs = true) {i : Nat} (hi : i < rs.length) : (elAt rs i).q.length ≤ 10 := by
  have := (wrB_facts h).1 i hi
  unfold wrAtB wrSB at this
  simp only [Bool.and_eq_true] at this
  have h1 := this.1.1.2
  have h2 := this.1.2
  rcases Nat.lt_or_ge 10 (elAt rs i).q.length with c | c
  · have a := rise_ge h1 h2 10 c
    have b := in_facts (of_decide_eq_true h2 10 c)
    omega
  · exact c
theorem inhL_small (rs : List Wr) (ph : Int) : (inhL rs ph).length ≤ 1048576 := by
  unfold inhL
  split
  · rename_i h
    simp only [inhB, Bool.and_eq_true] at h
    have := (wrB_facts h.1).2
    have := inhK_len rs ph rs.length
    omega
  · simp
/-- Whether a name is among names. -/
def hasB (ts : List ByteArray) (s : ByteArray) : Bool := decide (∃ i, i < ts.length ∧ sEq (elAt ts i) s = true)
theorem hasB_yes {ts : List ByteArray} {s : ByteArray} {i : Nat} (h : i < ts.length) (e : sEq (elAt ts i) s = true) : hasB ts s = true := decide_eq_true ⟨i, h, e⟩
theorem hasB_no {ts : List ByteArray} {s : ByteArray} (h : ∀ i, i < ts.length → sEq (elAt ts i) s = false) : hasB ts s = false := decide_eq_false (fun ⟨i, hi, e⟩ => by rw [h i hi] at e; cases e)
/-- Whether a name of a list is a rule's, and behind the one ahead. -/
def nmAt (rs : List Wr) (ts : List ByteArray) (i : Nat) : Bool := decide (wfK rs (elAt ts i) < rs.length) && (decide (i = 0) || sLt (elAt ts (i - 1)) (elAt ts i))
/-- Whether a list is of ascending names of rules. -/
def nmB (rs : List Wr) (ts : List ByteArray) : Bool := decide (∀ i, i < ts.length → nmAt rs ts i = true)
theorem nmB_not {rs : List Wr} {ts : List ByteArray} {i : Nat} (hi : i < ts.length) (h : nmAt rs ts i = false) : nmB rs ts = false := decide_eq_false (fun k => by have := k i hi; rw [h] at this; cases this)
theorem nmB_all {rs : List Wr} {ts : List ByteArray} (h : ∀ i, i < ts.length → nmAt rs ts i = true) : nmB rs ts = true := decide_eq_true h

end Go.Proofs.YticdccdkjepifaaGreat

namespace Go.Proofs.YticdccdkjepifaaGreat
open Go.RowKit

set_option maxHeartbeats 400000 in
theorem l1In_any (x a b : Int) (w : World) :
    Calls Tryz.prog 70 #[.int .i64 x, .int .i64 a, .int .i64 b] w fun e w' => e = .returned (.bool (inB x a b)) ∧ w' = w := by
  by_cases h1 : a ≤ x <;> by_cases h2 : x ≤ b
  all_goals
    go_enter Tryz.func70, Tryz.ntmps70
    go_wp2
    go_ret
    exact ⟨ret_bool (by simp [inB]; omega), rfl⟩

set_option maxHeartbeats 400000 in
theorem within_any (x a b : Int) (w : World) :
    Calls Tryz.prog 60 #[.int .i64 x, .int .i64 a, .int .i64 b] w fun e w' => e = .returned (.bool (inB x a b)) ∧ w' = w := by
  by_cases h1 : a ≤ x <;> by_cases h2 : x ≤ b
  all_goals
    go_enter Tryz.func60, Tryz.ntmps60
    go_wp2
    go_ret
    exact ⟨ret_bool (by simp [inB]; omega), rfl⟩

theorem l1In_is {c : Bool} (x a b : Int) (w : World) (hc : inB x a b = c) :
    Calls Tryz.prog 70 #[.int .i64 x, .int .i64 a, .int .i64 b] w fun e w' => e = .returned (.bool c) ∧ w' = w := by
  subst hc; exact l1In_any x a b w
theorem within_is {c : Bool} (x a b : Int) (w : World) (hc : inB x a b = c) :
    Calls Tryz.prog 60 #[.int .i64 x, .int .i64 a, .int .i64 b] w fun e w' => e = .returned (.bool c) ∧ w' = w := by
  subst hc; exact within_any x a b w

theorem allB_true {zs : List Int} {a b : Int} (h : ∀ j, j < zs.length → inB (nth zs j) a b = true) : allB zs a b = true := by
  simp only [allB, decide_eq_true_eq]; exact h
theorem allB_false {zs : List Int} {a b : Int} {j : Nat} (hj : j < zs.length) (h : inB (nth zs j) a b = false) : allB zs a b = false := by
  simp only [allB, decide_eq_false_iff_not]; intro k; have := k j hj; rw [h] at this; cases this


set_option maxHeartbeats 400000 in
theorem allWithin_any (ad : Option Addr) (len cap : Nat) (zs : List Int) (a b : Int) (w : World) (hr : Row w ad len zs) :
    Calls Tryz.prog 101 #[.slice ad len cap, .int .i64 a, .int .i64 b] w fun e w' => e = .returned (.bool (allB zs a b)) ∧ ∃ n, w' = w.drewN n := by
  have hz := hr.len_eq
  have hs := hr.small
  have hopen := hr.open_
  clear hr
  subst hz
  go_enter Tryz.func101, Tryz.ntmps101
  go_wp2
  go_loopw [11] (fun i wr => ∃ k n : Nat, k ≤ zs.length ∧ i = .int .i64 k ∧ Hid (∀ j, j < k → inB (nth zs j) a b = true) ∧ wr = w.drewN n) (fun i _ => zs.length - (intOf i).toNat)
  case atStart => exact ⟨0, 0, Nat.zero_le _, rfl, (fun j hj => by omega), rfl⟩
  case round =>
    obtain ⟨k, n, hk, rfl, hall, rfl⟩ := hrel
    by_cases hlt : k < zs.length
    · rcases hopen with ⟨h0, _⟩ | ⟨bb, off, rfl, _, hc⟩
      · omega
      have hcell := hc k hlt
      clear hc
      cases hin : inB (nth zs k) a b
      · have Hin : Hid (inB (nth zs k) a b = false) := hin
        go_wp2_with (go_at_call 60; refine (within_any _ _ _ _).mono ?_; rintro e w' ⟨rfl, rfl⟩)
        go_ret
        exact ⟨ret_bool (allB_false hlt Hin.out).symm, n, rfl⟩
      · have Hin : Hid (inB (nth zs k) a b = true) := hin
        go_wp2_with (go_at_call 60; refine (within_any _ _ _ _).mono ?_; rintro e w' ⟨rfl, rfl⟩)
        go_roundw
        case rel => exact ⟨k + 1, n, by omega, by go_num, (fun j hj => by rcases Nat.lt_succ_iff_lt_or_eq.1 hj with h | h; exact hall.out j h; subst h; exact Hin.out), rfl⟩
        case measure => simp [intOf]; omega
    · go_wp2
      go_ret
      exact ⟨ret_bool (allB_true fun j hj => hall.out j (by omega)).symm, n, rfl⟩

theorem riseB_true {zs : List Int} (h : ∀ j, j + 1 < zs.length → nth zs j < nth zs (j + 1)) : riseB zs = true := by
  simp only [riseB, decide_eq_true_eq]; exact fun i hi => h i (by omega)
theorem riseB_false {zs : List Int} {j : Nat} (hj : j + 1 < zs.length) (h : nth zs (j + 1) ≤ nth zs j) : riseB zs = false := by
  simp only [riseB, decide_eq_false_iff_not]; intro k; have := k j (by omega); omega


set_option maxHeartbeats 400000 in
theorem ascending_any (ad : Option Addr) (len cap : Nat) (zs : List Int) (w : World) (hr : Row w ad len zs) :
    Calls Tryz.prog 108 #[.slice ad len cap] w fun e w' => e = .returned (.bool (riseB zs)) ∧ ∃ n, w' = w.drewN n := by
  have hz := hr.len_eq
  have hs := hr.small
  have hopen := hr.open_
  clear hr
  subst hz
  go_enter Tryz.func108, Tryz.ntmps108
  go_wp2
  go_loopw [3] (fun i wr => ∃ k n : Nat, i = .int .i64 ((k : Int) + 1) ∧ k ≤ zs.length ∧ Hid (∀ j, j < k → j + 1 < zs.length → nth zs j < nth zs (j + 1)) ∧ wr = w.drewN n) (fun i _ => zs.length + 1 - (intOf i).toNat)
  case atStart => exact ⟨0, 0, rfl, by omega, (fun j hj => by omega), rfl⟩
  case round =>
    obtain ⟨k, n, rfl, hk, hall, rfl⟩ := hrel
    by_cases hlt : k + 1 < zs.length
    · rcases hopen with ⟨h0, _⟩ | ⟨bb, off, rfl, _, hc⟩
      · simp [h0] at hlt
      have hc1 := hc k (by omega)
      have hc2 := hc (k + 1) hlt
      have hi1 : (0 : Int) ≤ (k : Int) := by omega
      have hi2 : (k : Int) < (zs.length : Int) := by omega
      have hi3 : (k : Int) + 1 < (zs.length : Int) := by omega
      have hi4 : ((k : Int) + 1).toNat = k + 1 := by omega
      clear hc
      by_cases hin : nth zs k < nth zs (k + 1)
      · go_wp2
        go_quiet (fail)
        go_wp2
        go_roundw
        case rel => exact ⟨k + 1, _, by go_num, by omega, (fun j hj h2 => by rcases Nat.lt_succ_iff_lt_or_eq.1 hj with h | h; exact hall.out j h h2; subst h; exact hin), rfl⟩
        case measure => simp [intOf]; omega
      · go_wp2
        go_quiet (fail)
        go_wp2
        go_ret
        exact ⟨ret_bool (riseB_false hlt (by omega)).symm, dn2 _ _ _⟩
    · go_wp2
      go_ret
      exact ⟨ret_bool (riseB_true fun j hj => hall.out j (by omega) hj).symm, n, rfl⟩

end Go.Proofs.YticdccdkjepifaaGreat
