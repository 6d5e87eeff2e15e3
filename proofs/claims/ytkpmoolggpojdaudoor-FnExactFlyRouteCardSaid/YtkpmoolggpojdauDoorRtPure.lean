/-
  A route flown in plain numbers: leg by leg, all steps at most 2000. No program here.
-/
import Derived.Test.YtkpmoolggpojdauDoorLegPure
import Derived.Test.YtkpmoolggpojdauDoorToLg
namespace Go.Proofs.YtkpmoolggpojdauDoor
open Go

/-- The answer of one leg. -/
def lgR (l : Lg) (q : Kf) : Kf × Int × Int := flR l.a0 l.a1 l.a2 l.a3 q
/-- Legs flown on from q, with so many steps behind: the craft, the steps of each, the code. -/
def rtN : Kf → Int → List Lg → Kf × List Int × Int
  | q, _, [] => (q, [], 0)
  | q, all, l :: ls =>
    if (lgR l q).2.2 = 0 then
      (if 2000 < all + (lgR l q).2.1 then (q, [], 2)
       else ((rtN (lgR l q).1 (all + (lgR l q).2.1) ls).1, (lgR l q).2.1 :: (rtN (lgR l q).1 (all + (lgR l q).2.1) ls).2.1, (rtN (lgR l q).1 (all + (lgR l q).2.1) ls).2.2))
    else (q, [], (lgR l q).2.2)
/-- A route flown. -/
def rtR (q : Kf) (ls : List Lg) : Kf × List Int × Int := if ls.length ≤ 30 then rtN q 0 ls else (q, [], 1)

theorem flN_bd (k lx ly m : Int) (q0 : Kf) : ∀ (n : Nat) (q : Kf) (s : Int), 0 ≤ s → s + n ≤ 2001 → (0 ≤ (flN k lx ly m q0 n q s).2.1 ∧ (flN k lx ly m q0 n q s).2.1 ≤ 2001) ∧ ((flN k lx ly m q0 n q s).2.2 = 0 ∨ (flN k lx ly m q0 n q s).2.1 = 0)
  | 0, q, s, _, _ => ⟨⟨by simp [flN], by simp [flN]⟩, .inr (by simp [flN])⟩
  | n + 1, q, s, h0, h1 => by
    simp only [flN]
    split
    · split
      · exact flN_bd k lx ly m q0 n _ (s + 1) (by omega) (by omega)
      · exact ⟨⟨by simp, by simp⟩, .inr rfl⟩
    · exact ⟨⟨h0, by show s ≤ 2001; omega⟩, .inl rfl⟩
theorem flR_bd (k lx ly m : Int) (q : Kf) : (0 ≤ (flR k lx ly m q).2.1 ∧ (flR k lx ly m q).2.1 ≤ 2001) ∧ ((flR k lx ly m q).2.2 = 0 ∨ (flR k lx ly m q).2.1 = 0) := by
  unfold flR
  split
  · split
    · exact ⟨⟨by simp, by simp⟩, .inr rfl⟩
    · exact flN_bd k lx ly m q 2001 q 0 (by omega) (by omega)
  · exact ⟨⟨by simp, by simp⟩, .inr rfl⟩

/-- Behind i legs: where it is, how many steps, which list; what comes out. -/
structure RtA (ls : List Lg) (R : Kf × List Int × Int) (i : Nat) (q : Kf) (all : Int) (out : List Int) : Prop where
  r : R = ((rtN q all (ls.drop i)).1, out ++ (rtN q all (ls.drop i)).2.1, (rtN q all (ls.drop i)).2.2)
  a0 : 0 ≤ all
  a1 : all ≤ 2000
  l : out.length = i
  i : i ≤ ls.length
  o : ∀ x ∈ out, 0 ≤ x ∧ x ≤ 2001

theorem RtA.start (ls : List Lg) (q : Kf) : RtA ls (rtN q 0 ls) 0 q 0 [] := ⟨by simp, by omega, by omega, rfl, by omega, by simp⟩
theorem drop_el {ls : List Lg} {i : Nat} (h : i < ls.length) : ls.drop i = elAt ls i :: ls.drop (i + 1) := by
  rw [List.drop_eq_getElem_cons h]
  simp [elAt, h]
theorem RtA.last {ls : List Lg} {R : Kf × List Int × Int} {i : Nat} {q : Kf} {all : Int} {out : List Int} (h : RtA ls R i q all out) (hi : ¬ i < ls.length) : R = (q, out, 0) := by
  have hr := h.r
  have e : ls.drop i = [] := List.drop_eq_nil_of_le (by omega)
  rw [e] at hr
  simpa [rtN] using hr
theorem RtA.code {ls : List Lg} {R : Kf × List Int × Int} {i : Nat} {q : Kf} {all : Int} {out : List Int} (h : RtA ls R i q all out) (hi : i < ls.length) (hc : ¬ (lgR (elAt ls i) q).2.2 = 0) : R = (q, out, (lgR (elAt ls i) q).2.2) := by
  have hr := h.r
  rw [drop_el hi] at hr
  simpa [rtN, hc] using hr
theorem RtA.far {ls : List Lg} {R : Kf × List Int × Int} {i : Nat} {q : Kf} {all : Int} {out : List Int} (h : RtA ls R i q all out) (hi : i < ls.length) (hc : (lgR (elAt ls i) q).2.2 = 0) (hf : 2000 < all + (lgR (elAt ls i) q).2.1) : R = (q, out, 2) := by
  have hr := h.r
  rw [drop_el hi] at hr
  simpa [rtN, hc, hf] using hr
theorem RtA.more {ls : List Lg} {R : Kf × List Int × Int} {i : Nat} {q : Kf} {all : Int} {out : List Int} (h : RtA ls R i q all out) (hi : i < ls.length) (hc : (lgR (elAt ls i) q).2.2 = 0) (hf : ¬ 2000 < all + (lgR (elAt ls i) q).2.1) :
    RtA ls R (i + 1) (lgR (elAt ls i) q).1 (all + (lgR (elAt ls i) q).2.1) (out ++ [(lgR (elAt ls i) q).2.1]) := by
  have hr := h.r
  rw [drop_el hi] at hr
  have hb := (flR_bd (elAt ls i).a0 (elAt ls i).a1 (elAt ls i).a2 (elAt ls i).a3 q).1
  have h0 := h.a0
  refine ⟨?_, ?_, by omega, by simp [h.l], by omega, ?_⟩
  · rw [hr]; simp [rtN, hc, hf]
  · have : 0 ≤ (lgR (elAt ls i) q).2.1 := hb.1
    omega
  · intro x hx
    rcases List.mem_append.1 hx with hx | hx
    · exact h.o x hx
    · obtain rfl : x = (lgR (elAt ls i) q).2.1 := by simpa using hx
      exact hb

end Go.Proofs.YtkpmoolggpojdauDoor
