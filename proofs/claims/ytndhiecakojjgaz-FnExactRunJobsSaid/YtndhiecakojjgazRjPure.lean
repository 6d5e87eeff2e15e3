/-
  Jobs run in the windows of a plan, in plain numbers. No program here.
-/
import Derived.Test.YtndhiecakojjgazPpPure
import Derived.Test.YtndhiecakojjgazToJb
namespace Go.Proofs.Ytndhiecakojjgaz
open Go

/-- Whether a job is so; whether all are, and the ticks. -/
def jbB (pa : Int) (x : Jb) : Bool := inB x.a0 0 (pa - 1) && inB x.a1 1 100000 && inB x.a2 1 100000
def jbAll (pa : Int) (js : List Jb) : Bool := decide (∀ k, k < js.length → jbB pa (elAt js k) = true)
def rjB (fr pa : Int) (ws : List Wn) (js : List Jb) (tk : Int) : Bool := ppB fr pa ws && decide (js.length ≤ 20) && inB tk 0 5000 && jbAll pa js
/-- Whether a job comes at tick t. -/
def rjC (js : List Jb) (t : Int) (k : Nat) : Bool := decide (t % (elAt js k).a1 = 0)
/-- What is late, left, and when the jobs came, after the first k were looked at. -/
def rjLt (js : List Jb) (t : Int) (lt lf : List Int) : Nat → List Int
  | 0 => lt
  | k + 1 => if rjC js t k = true ∧ 0 < nth lf k then (rjLt js t lt lf k).set k (nth lt k + 1) else rjLt js t lt lf k
def rjLf (js : List Jb) (t : Int) (lf : List Int) : Nat → List Int
  | 0 => lf
  | k + 1 => if rjC js t k = true then (rjLf js t lf k).set k (elAt js k).a2 else rjLf js t lf k
def rjCm (js : List Jb) (t : Int) (cm : List Int) : Nat → List Int
  | 0 => cm
  | k + 1 => if rjC js t k = true then (rjCm js t cm k).set k t else rjCm js t cm k
/-- Whose turn it is among the first k: the one that came first, or -1. -/
def rjBe (js : List Jb) (lf cm : List Int) (who : Int) : Nat → Int
  | 0 => -1
  | k + 1 => if (elAt js k).a0 = who ∧ 0 < nth lf k ∧ (rjBe js lf cm who k < 0 ∨ nth cm k < nth cm (rjBe js lf cm who k).toNat) then (k : Int) else rjBe js lf cm who k
structure RjS where
  lt : List Int
  lf : List Int
  cm : List Int
  idl : Int
def rjGo (js : List Jb) (who t : Int) (s : RjS) : RjS :=
  if 0 ≤ rjBe js (rjLf js t s.lf js.length) (rjCm js t s.cm js.length) who js.length then
    ⟨rjLt js t s.lt s.lf js.length, (rjLf js t s.lf js.length).set (rjBe js (rjLf js t s.lf js.length) (rjCm js t s.cm js.length) who js.length).toNat (nth (rjLf js t s.lf js.length) (rjBe js (rjLf js t s.lf js.length) (rjCm js t s.cm js.length) who js.length).toNat - 1), rjCm js t s.cm js.length, s.idl⟩
  else ⟨rjLt js t s.lt s.lf js.length, rjLf js t s.lf js.length, rjCm js t s.cm js.length, if 0 ≤ who then s.idl + 1 else s.idl⟩
/-- After t ticks. -/
def rjT (fr pa : Int) (ws : List Wn) (js : List Jb) : Nat → RjS
  | 0 => ⟨List.replicate js.length 0, List.replicate js.length 0, List.replicate js.length 0, 0⟩
  | t + 1 => rjGo js (owR fr pa ws (t : Int)) (t : Int) (rjT fr pa ws js t)
def rjL (fr pa : Int) (ws : List Wn) (js : List Jb) (tk : Int) : List Int := if rjB fr pa ws js tk = true then (rjT fr pa ws js tk.toNat).lt else []
def rjI (fr pa : Int) (ws : List Wn) (js : List Jb) (tk : Int) : Int := if rjB fr pa ws js tk = true then (rjT fr pa ws js tk.toNat).idl else 0

theorem rjLt_len (js : List Jb) (t : Int) (lt lf : List Int) : ∀ k, (rjLt js t lt lf k).length = lt.length
  | 0 => rfl
  | k + 1 => by simp only [rjLt]; split <;> simp [rjLt_len js t lt lf k]
theorem rjLf_len (js : List Jb) (t : Int) (lf : List Int) : ∀ k, (rjLf js t lf k).length = lf.length
  | 0 => rfl
  | k + 1 => by simp only [rjLf]; split <;> simp [rjLf_len js t lf k]
theorem rjCm_len (js : List Jb) (t : Int) (cm : List Int) : ∀ k, (rjCm js t cm k).length = cm.length
  | 0 => rfl
  | k + 1 => by simp only [rjCm]; split <;> simp [rjCm_len js t cm k]
theorem rjBe_in (js : List Jb) (lf cm : List Int) (who : Int) : ∀ k, -1 ≤ rjBe js lf cm who k ∧ rjBe js lf cm who k < (k : Int)
  | 0 => by simp [rjBe]
  | k + 1 => by
    have ih := rjBe_in js lf cm who k
    simp only [rjBe]
    split <;> omega
theorem nth_set_z (zs : List Int) (i j : Nat) (x : Int) (hi : i < zs.length) : nth (zs.set i x) j = if j = i then x else nth zs j := by
  unfold nth
  by_cases e : j = i
  · subst e; simp [hi]
  · rw [List.getElem?_set_ne (by omega)]; simp [e]
/-- What was not looked at yet stands. -/
theorem rjLf_rest (js : List Jb) (t : Int) (lf : List Int) (n : Nat) (hl : lf.length = n) : ∀ k, k ≤ n → ∀ j, k ≤ j → nth (rjLf js t lf k) j = nth lf j
  | 0, _, _, _ => rfl
  | k + 1, hk, j, hj => by
    simp only [rjLf]
    split
    · rw [nth_set_z _ _ _ _ (by rw [rjLf_len, hl]; omega), if_neg (by omega)]; exact rjLf_rest js t lf n hl k (by omega) j (by omega)
    · exact rjLf_rest js t lf n hl k (by omega) j (by omega)
theorem rjLt_rest (js : List Jb) (t : Int) (lt lf : List Int) (n : Nat) (hl : lt.length = n) : ∀ k, k ≤ n → ∀ j, k ≤ j → nth (rjLt js t lt lf k) j = nth lt j
  | 0, _, _, _ => rfl
  | k + 1, hk, j, hj => by
    simp only [rjLt]
    split
    · rw [nth_set_z _ _ _ _ (by rw [rjLt_len, hl]; omega), if_neg (by omega)]; exact rjLt_rest js t lt lf n hl k (by omega) j (by omega)
    · exact rjLt_rest js t lt lf n hl k (by omega) j (by omega)
theorem rj_no {fr pa tk : Int} {ws : List Wn} {js : List Jb} (h : rjB fr pa ws js tk = false) : rjL fr pa ws js tk = [] ∧ rjI fr pa ws js tk = 0 := by simp [rjL, rjI, h]
theorem rj_yes {fr pa tk : Int} {ws : List Wn} {js : List Jb} (h : rjB fr pa ws js tk = true) : rjL fr pa ws js tk = (rjT fr pa ws js tk.toNat).lt ∧ rjI fr pa ws js tk = (rjT fr pa ws js tk.toNat).idl := by simp [rjL, rjI, h]

end Go.Proofs.Ytndhiecakojjgaz
