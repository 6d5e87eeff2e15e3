/-
  How long a battery lasts, and one tick of a pump, in plain numbers. No program here.
-/
import Derived.Test.YtfahhjgpgccdhacLists
namespace Go.Proofs.Ytfahhjgpgccdhac
open Go

/-- Whether a battery is so, with its draws. -/
def lastB (c m l : Int) (zs : List Int) : Bool := inB c 0 m && decide (m ≤ 1000000) && inB l 0 100 && decide (zs.length ≤ 300) && allB zs (-100000) 100000
/-- The ticks that it lasts and the charge then, from a tick and a charge on. -/
def lastR (m l : Int) : List Int → Nat → Int → Nat × Int
  | [], k, c => (k, c)
  | d :: ds, k, c => if min m (c - d - l) < 0 then (k, c) else lastR m l ds (k + 1) (min m (c - d - l))
/-- What is told. -/
def lastT (c m l : Int) (zs : List Int) : Int × Int := if lastB c m l zs = true then (((lastR m l zs 0 c).1 : Int), (lastR m l zs 0 c).2) else (0, 0)

theorem drop_nth {zs : List Int} {k : Nat} (h : k < zs.length) : zs.drop k = nth zs k :: zs.drop (k + 1) := by
  rw [List.drop_eq_getElem_cons h]
  simp [nth, List.getElem?_eq_getElem h]
theorem lastR_end {m l c : Int} {zs : List Int} {k : Nat} (h : ¬ k < zs.length) : lastR m l (zs.drop k) k c = (k, c) := by
  rw [List.drop_eq_nil_of_le (by omega)]; rfl
theorem lastR_stop {m l c : Int} {zs : List Int} {k : Nat} (h : k < zs.length) (h2 : min m (c - nth zs k - l) < 0) : lastR m l (zs.drop k) k c = (k, c) := by
  rw [drop_nth h, lastR, if_pos h2]
theorem lastR_go {m l c : Int} {zs : List Int} {k : Nat} (h : k < zs.length) (h2 : ¬ min m (c - nth zs k - l) < 0) : lastR m l (zs.drop k) k c = lastR m l (zs.drop (k + 1)) (k + 1) (min m (c - nth zs k - l)) := by
  rw [drop_nth h, lastR, if_neg h2]
theorem lastT_no {c m l : Int} {zs : List Int} (h : lastB c m l zs = false) : lastT c m l zs = (0, 0) := by simp [lastT, h]
theorem lastT_yes {c m l : Int} {zs : List Int} (h : lastB c m l zs = true) : lastT c m l zs = (((lastR m l zs 0 c).1 : Int), (lastR m l zs 0 c).2) := by simp [lastT, h]
theorem lastB_no {c m l : Int} {zs : List Int} (h : ¬ (0 ≤ c ∧ c ≤ m ∧ m ≤ 1000000 ∧ 0 ≤ l ∧ l ≤ 100 ∧ zs.length ≤ 300 ∧ allB zs (-100000) 100000 = true)) : lastB c m l zs = false := by
  cases hb : lastB c m l zs with
  | false => rfl
  | true =>
    simp only [lastB, Bool.and_eq_true, decide_eq_true_eq] at hb
    obtain ⟨⟨⟨⟨h1, h2⟩, h3⟩, h4⟩, h5⟩ := hb
    exact absurd ⟨(in_facts h1).1, (in_facts h1).2, h2, (in_facts h3).1, (in_facts h3).2, h4, h5⟩ h
theorem lastB_yes {c m l : Int} {zs : List Int} (h : 0 ≤ c ∧ c ≤ m ∧ m ≤ 1000000 ∧ 0 ≤ l ∧ l ≤ 100 ∧ zs.length ≤ 300 ∧ allB zs (-100000) 100000 = true) : lastB c m l zs = true := by
  obtain ⟨h1, h2, h3, h4, h5, h6, h7⟩ := h
  simp [lastB, inB, *]

/-- Whether a battery is so. -/
def batB (c m l : Int) : Bool := inB m 0 1000000 && inB c 0 m && inB l 0 100
theorem batB_facts {c m l : Int} (h : batB c m l = true) : 0 ≤ c ∧ c ≤ m ∧ m ≤ 1000000 ∧ 0 ≤ l ∧ l ≤ 100 := by
  simp only [batB, Bool.and_eq_true] at h
  obtain ⟨⟨h1, h2⟩, h3⟩ := h
  exact ⟨(in_facts h2).1, (in_facts h2).2, (in_facts h1).2, (in_facts h3).1, (in_facts h3).2⟩
theorem batB_mk {c m l : Int} (h : 0 ≤ c ∧ c ≤ m ∧ m ≤ 1000000 ∧ 0 ≤ l ∧ l ≤ 100) : batB c m l = true := by
  obtain ⟨h1, h2, h3, h4, h5⟩ := h
  have h6 : 0 ≤ m := by omega
  simp [batB, inB, *]
theorem lastB_bat {c m l : Int} {zs : List Int} (h : batB c m l = false) : lastB c m l zs = false :=
  lastB_no fun k => by rw [batB_mk ⟨k.1, k.2.1, k.2.2.1, k.2.2.2.1, k.2.2.2.2.1⟩] at h; cases h
theorem lastB_long {c m l : Int} {zs : List Int} (h : 300 < zs.length) : lastB c m l zs = false := lastB_no fun k => by omega
theorem lastB_all {c m l : Int} {zs : List Int} (h : allB zs (-100000) 100000 = false) : lastB c m l zs = false :=
  lastB_no fun k => by rw [h] at k; cases k.2.2.2.2.2.2
theorem lastB_true {c m l : Int} {zs : List Int} (h : batB c m l = true) (h2 : zs.length ≤ 300) (h3 : allB zs (-100000) 100000 = true) : lastB c m l zs = true := by
  obtain ⟨k1, k2, k3, k4, k5⟩ := batB_facts h
  exact lastB_yes ⟨k1, k2, k3, k4, k5, h2, h3⟩
theorem allB_at {zs : List Int} {a b : Int} (h : allB zs a b = true) {k : Nat} (hk : k < zs.length) : a ≤ nth zs k ∧ nth zs k ≤ b :=
  in_facts (of_decide_eq_true h k hk)
theorem ret_iib {a b c d : Int} {e f : Bool} (h : a = b) (h2 : c = d) (h3 : e = f) : Ending.returned (.tuple #[.int .i64 a, .int .i64 c, .bool e]) = .returned (.tuple #[.int .i64 b, .int .i64 d, .bool f]) := by rw [h, h2, h3]

/-- Whether a pump and its leak are so. -/
def pumpB (s p f k : Int) : Bool := inB s 0 2 && inB p 0 5000 && inB f 0 5 && inB k 0 500
/-- The pressure behind a tick. -/
def pumpP (s p : Int) (want : Bool) (k : Int) : Int := max 0 (min 5000 (p + (if s = 2 then -k else if want = true then 200 - k else -k)))
/-- The pump behind a tick: its state, its pressure, its fault. -/
def pumpN (s p f : Int) (want : Bool) (k : Int) : Int × Int × Int :=
  if s = 2 then (2, pumpP s p want k, f)
  else if want = true then
    if pumpP s p want k < 1000 then (if min 5 (f + 1) = 5 then 2 else 1, pumpP s p want k, min 5 (f + 1)) else (1, pumpP s p want k, 0)
  else (0, pumpP s p want k, 0)
/-- What is told. -/
def pumpT (s p f : Int) (want : Bool) (k : Int) : Int × Int × Int := if pumpB s p f k = true then pumpN s p f want k else (0, 0, 0)
theorem pumpB_no {s p f k : Int} (h : ¬ (0 ≤ s ∧ s ≤ 2 ∧ 0 ≤ p ∧ p ≤ 5000 ∧ 0 ≤ f ∧ f ≤ 5 ∧ 0 ≤ k ∧ k ≤ 500)) : pumpB s p f k = false := by
  cases hb : pumpB s p f k with
  | false => rfl
  | true =>
    simp only [pumpB, Bool.and_eq_true] at hb
    obtain ⟨⟨⟨h1, h2⟩, h3⟩, h4⟩ := hb
    have := in_facts h1; have := in_facts h2; have := in_facts h3; have := in_facts h4
    omega
theorem pumpB_yes {s p f k : Int} (h : 0 ≤ s ∧ s ≤ 2 ∧ 0 ≤ p ∧ p ≤ 5000 ∧ 0 ≤ f ∧ f ≤ 5 ∧ 0 ≤ k ∧ k ≤ 500) : pumpB s p f k = true := by
  obtain ⟨h1, h2, h3, h4, h5, h6, h7, h8⟩ := h
  simp [pumpB, inB, *]

end Go.Proofs.Ytfahhjgpgccdhac
