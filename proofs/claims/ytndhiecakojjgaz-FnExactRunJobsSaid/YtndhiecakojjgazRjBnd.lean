/-
  The bounds of what runs: how late, how much is left, when it came. No program here.
-/
import Derived.Test.YtndhiecakojjgazRjPure
namespace Go.Proofs.Ytndhiecakojjgaz
open Go

/-- Every number of a list lies between 0 and a limit. -/
def inL (zs : List Int) (n : Nat) (hi : Int) : Prop := zs.length = n ∧ ∀ j, j < n → 0 ≤ nth zs j ∧ nth zs j ≤ hi
theorem inL.set {zs : List Int} {n : Nat} {hi x : Int} (h : inL zs n hi) (i : Nat) (h0 : 0 ≤ x) (h1 : x ≤ hi) : inL (zs.set i x) n hi := by
  refine ⟨by simp [h.1], fun j hj => ?_⟩
  by_cases q : i < zs.length
  · rw [nth_set_z _ _ _ _ q]
    split
    · exact ⟨h0, h1⟩
    · exact h.2 j hj
  · rw [List.set_eq_of_length_le (by omega)]; exact h.2 j hj
theorem inL.mono {zs : List Int} {n : Nat} {hi hi' : Int} (h : inL zs n hi) (q : hi ≤ hi') : inL zs n hi' := ⟨h.1, fun j hj => by have := h.2 j hj; omega⟩
theorem inL_new (n : Nat) (hi : Int) (h : 0 ≤ hi) : inL (List.replicate n 0) n hi := ⟨by simp, fun j hj => by simp [nth, hj, h]⟩
theorem rjLf_in {js : List Jb} {t : Int} {lf : List Int} {n : Nat} (h : inL lf n 100000) (hj : ∀ k, k < n → 1 ≤ (elAt js k).a2 ∧ (elAt js k).a2 ≤ 100000) : ∀ k, k ≤ n → inL (rjLf js t lf k) n 100000
  | 0, _ => h
  | k + 1, hk => by
    have ih := rjLf_in (t := t) h hj k (by omega)
    have q := hj k (by omega)
    simp only [rjLf]
    split
    · exact ih.set k (by omega) (by omega)
    · exact ih
theorem rjCm_in {js : List Jb} {t : Int} {cm : List Int} {n : Nat} (h : inL cm n t) (ht : 0 ≤ t) : ∀ k, inL (rjCm js t cm k) n t
  | 0 => h
  | k + 1 => by
    have ih := rjCm_in (js := js) h ht k
    simp only [rjCm]
    split
    · exact ih.set k ht (Int.le_refl _)
    · exact ih
theorem rjLt_in {js : List Jb} {t : Int} {lt lf : List Int} {n : Nat} (h : inL lt n t) : ∀ k, k ≤ n → inL (rjLt js t lt lf k) n (t + 1)
  | 0, _ => h.mono (by omega)
  | k + 1, hk => by
    have ih := rjLt_in (js := js) (lf := lf) h k (by omega)
    have q := h.2 k (by omega)
    simp only [rjLt]
    split
    · exact ih.set k (by omega) (by omega)
    · exact ih
/-- The one whose turn it is has something left. -/
theorem rjBe_left (js : List Jb) (lf cm : List Int) (who : Int) : ∀ k, 0 ≤ rjBe js lf cm who k → 0 < nth lf (rjBe js lf cm who k).toNat
  | 0, h => by simp [rjBe] at h
  | k + 1, h => by
    simp only [rjBe] at h ⊢
    split
    · rename_i q; simpa using q.2.1
    · rename_i q
      rw [if_neg q] at h
      exact rjBe_left js lf cm who k h
structure RjIn (s : RjS) (n : Nat) (t : Int) : Prop where
  lt : inL s.lt n t
  lf : inL s.lf n 100000
  cm : inL s.cm n t
  i0 : 0 ≤ s.idl
  i1 : s.idl ≤ t
theorem rjGo_in {js : List Jb} {who t : Int} {s : RjS} (h : RjIn s js.length t) (ht : 0 ≤ t) (hj : ∀ k, k < js.length → 1 ≤ (elAt js k).a2 ∧ (elAt js k).a2 ≤ 100000) : RjIn (rjGo js who t s) js.length (t + 1) := by
  have a := rjLt_in (js := js) (lf := s.lf) h.lt js.length (Nat.le_refl _)
  have b := rjLf_in (t := t) h.lf hj js.length (Nat.le_refl _)
  have c := (rjCm_in (js := js) h.cm ht js.length).mono (show t ≤ t + 1 by omega)
  have i0 := h.i0
  have i1 := h.i1
  unfold rjGo
  split
  · rename_i q
    have p := rjBe_left _ _ _ _ _ q
    have e := rjBe_in js (rjLf js t s.lf js.length) (rjCm js t s.cm js.length) who js.length
    have r := b.2 (rjBe js (rjLf js t s.lf js.length) (rjCm js t s.cm js.length) who js.length).toNat (by omega)
    exact ⟨a, b.set _ (by omega) (by omega), c, i0, by show s.idl ≤ t + 1; omega⟩
  · exact ⟨a, b, c, by show 0 ≤ (if 0 ≤ who then s.idl + 1 else s.idl); split <;> omega, by show (if 0 ≤ who then s.idl + 1 else s.idl) ≤ t + 1; split <;> omega⟩
theorem rjT_in {fr pa : Int} {ws : List Wn} {js : List Jb} (hj : ∀ k, k < js.length → 1 ≤ (elAt js k).a2 ∧ (elAt js k).a2 ≤ 100000) : ∀ t : Nat, RjIn (rjT fr pa ws js t) js.length (t : Int)
  | 0 => ⟨inL_new _ _ (by simp), inL_new _ _ (by omega), inL_new _ _ (by simp), Int.le_refl 0, Int.le_refl 0⟩
  | t + 1 => by
    have ih := rjGo_in (who := owR fr pa ws (t : Int)) (rjT_in (fr := fr) (pa := pa) (ws := ws) hj t) (by omega) hj
    simpa [rjT] using ih
theorem rjB_facts {fr pa tk : Int} {ws : List Wn} {js : List Jb} (h : rjB fr pa ws js tk = true) : ppB fr pa ws = true ∧ js.length ≤ 20 ∧ (0 ≤ tk ∧ tk ≤ 5000) ∧ ∀ k, k < js.length → (0 ≤ (elAt js k).a0 ∧ (elAt js k).a0 ≤ pa - 1) ∧ (1 ≤ (elAt js k).a1 ∧ (elAt js k).a1 ≤ 100000) ∧ (1 ≤ (elAt js k).a2 ∧ (elAt js k).a2 ≤ 100000) := by
  simp only [rjB, Bool.and_eq_true, decide_eq_true_eq] at h
  refine ⟨h.1.1.1, h.1.1.2, in_facts h.1.2, fun k hk => ?_⟩
  have q := of_decide_eq_true h.2 k hk
  simp only [jbB, Bool.and_eq_true] at q
  exact ⟨in_facts q.1.1, in_facts q.1.2, in_facts q.2⟩

end Go.Proofs.Ytndhiecakojjgaz
