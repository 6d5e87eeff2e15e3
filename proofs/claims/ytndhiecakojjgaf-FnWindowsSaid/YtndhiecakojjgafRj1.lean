/-
  The law's copy and comparison of a Job: of one value it says so. No condition.
  Jobs run in the windows of a plan, in plain numbers. No program here.
  The bounds of what runs: how late, how much is left, when it came. No program here.
  Jobs at work, each with what is left of it, when it came, how often it was late: what the program keeps, held against the plain answer. No program here.
-/
import Derived.Test.YtndhiecakojjgafChecked
import Derived.Test.YtndhiecakojjgafBase
import Derived.Test.YtndhiecakojjgafRowE
import Derived.Test.YtndhiecakojjgafPure1

namespace Go.Proofs.Ytndhiecakojjgaf
open Go.RowKit

/-- What a Job holds. -/
structure Jb where
  a0 : Int
  a1 : Int
  a2 : Int
instance : Inhabited Jb := ⟨⟨0, 0, 0⟩⟩
/-- Its cells. -/
def jbC (m : Jb) : Nat → Value
  | 0 => .int .i64 m.a0
  | 1 => .int .i64 m.a1
  | _ => .int .i64 m.a2
def jbAlike (m n : Jb) : Prop := m.a0 = n.a0 ∧ m.a1 = n.a1 ∧ m.a2 = n.a2
theorem jbAlike_refl (m : Jb) : jbAlike m m := ⟨rfl, rfl, rfl⟩
theorem jbAlike.symm {m n : Jb} (h : jbAlike m n) : jbAlike n m := ⟨h.1.symm, h.2.1.symm, h.2.2.symm⟩
theorem jbAlike.trans {m n l : Jb} (h : jbAlike m n) (g : jbAlike n l) : jbAlike m l := ⟨h.1.trans g.1, h.2.1.trans g.2.1, h.2.2.trans g.2.2⟩



end Go.Proofs.Ytndhiecakojjgaf

namespace Go.Proofs.Ytndhiecakojjgaf
open Go

/-- Whether a job is so; whether all are, and the ticks. -/
def jbB (pa : Int) (x : Jb) : Bool := inB x.a0 0 (pa - 1) && inB x.a1 1 100000 && inB x.a2 1 100000
def jbAll (pa : Int) (js : List Jb) : Bool := decide (∀ k, k < js.length → jbB pa (elAt js k) = true)
def rjB (fr pa : Int) (ws : List Wn) (js : List Jb) (tk : Int) : Bool := ppB fr pa ws && decide (js.length ≤ 20) && inB tk 0 5000 && jbAll pa js
/-- Whether a job comes at tick t. -/
def rjC (js : List Jb) (t : Int) (k : Nat) : Bool := decide (t % (elAt js k).a1 = 0)
/-- What is late, left, and when the jobs came, after the first k were looked at. -/
def rjLt (js : List Jb) (t : Int) (lt lf : List Int) : Nat → List Int
  | 0 => lt
  | k + 1 => if rjC js t k = true ∧ 0 < nth lf k then (rjLt js t lt lf k).set k (nth lt k + 1) else rjLt js t lt lf k
def rjLf (js : List Jb) (t : Int) (lf : List Int) : Nat → List Int
  | 0 => lf
  | k + 1 => if rjC js t k = true then (rjLf js t lf k).set k (elAt js k).a2 else rjLf js t lf k
def rjCm (js : List Jb) (t : Int) (cm : List Int) : Nat → List Int
  | 0 => cm
  | k + 1 => if rjC js t k = true then (rjCm js t cm k).set k t else rjCm js t cm k
/-- Whose turn it is among the first k: the one that came first, or -1. -/
def rjBe (js : List Jb) (lf cm : List Int) (who : Int) : Nat → Int
  | 0 => -1
  | k + 1 => if (elAt js k).a0 = who ∧ 0 < nth lf k ∧ (rjBe js lf cm who k < 0 ∨ nth cm k < nth cm (rjBe js lf cm who k).toNat) then (k : Int) else rjBe js lf cm who k
structure RjS where
  lt : List Int
  lf : List Int
  cm : List Int
  idl : Int
def rjGo (js : List Jb) (who t : Int) (s : RjS) : RjS :=
  if 0 ≤ rjBe js (rjLf js t s.lf js.length) (rjCm js t s.cm js.length) who js.length then
    ⟨rjLt js t s.lt s.lf js.length, (rjLf js t s.lf js.length).set (rjBe js (rjLf js t s.lf js.length) (rjCm js t s.cm js.length) who js.length).toNat (nth (rjLf js t s.lf js.length) (rjBe js (rjLf js t s.lf js.length) (rjCm js t s.cm js.length) who js.length).toNat - 1), rjCm js t s.cm js.length, s.idl⟩
  else ⟨rjLt js t s.lt s.lf js.length, rjLf js t s.lf js.length, rjCm js t s.cm js.length, if 0 ≤ who then s.idl + 1 else s.idl⟩
/-- After t ticks. -/
def rjT (fr pa : Int) (ws : List Wn) (js : List Jb) : Nat → RjS
  | 0 => ⟨List.replicate js.length 0, List.replicate js.length 0, List.replicate js.length 0, 0⟩
  | t + 1 => rjGo js (owR fr pa ws (t : Int)) (t : Int) (rjT fr pa ws js t)
def rjL (fr pa : Int) (ws : List Wn) (js : List Jb) (tk : Int) : List Int := if rjB fr pa ws js tk = true then (rjT fr pa ws js tk.toNat).lt else []
def rjI (fr pa : Int) (ws : List Wn) (js : List Jb) (tk : Int) : Int := if rjB fr pa ws js tk = true then (rjT fr pa ws js tk.toNat).idl else 0

theorem rjLt_len (js : List Jb) (t : Int) (lt lf : List Int) : ∀ k, (rjLt js t lt lf k).length = lt.length
  | 0 => rfl
  | k + 1 => by simp only [rjLt]; split <;> simp [rjLt_len js t lt lf k]
theorem rjLf_len (js : List Jb) (t : Int) (lf : List Int) : ∀ k, (rjLf js t lf k).length = lf.length
  | 0 => rfl
  | k + 1 => by simp only [rjLf]; split <;> simp [rjLf_len js t lf k]
theorem rjCm_len (js : List Jb) (t : Int) (cm : List Int) : ∀ k, (rjCm js t cm k).length = cm.length
  | 0 => rfl
  | k + 1 => by simp only [rjCm]; split <;> simp [rjCm_len js t cm k]
theorem rjBe_in (js : List Jb) (lf cm : List Int) (who : Int) : ∀ k, -1 ≤ rjBe js lf cm who k ∧ rjBe js lf cm who k < (k : Int)
  | 0 => by simp [rjBe]
  | k + 1 => by
    have ih := rjBe_in js lf cm who k
    simp only [rjBe]
    split <;> omega
theorem nth_set_z (zs : List Int) (i j : Nat) (x : Int) (hi : i < zs.length) : nth (zs.set i x) j = if j = i then x else nth zs j := by
  unfold nth
  by_cases e : j = i
  · subst e; simp [hi]
  · rw [List.getElem?_set_ne (by omega)]; simp [e]
/-- What was not looked at yet stands. -/
theorem rjLf_rest (js : List Jb) (t : Int) (lf : List Int) (n : Nat) (hl : lf.length = n) : ∀ k, k ≤ n → ∀ j, k ≤ j → nth (rjLf js t lf k) j = nth lf j
  | 0, _, _, _ => rfl
  | k + 1, hk, j, hj => by
    simp only [rjLf]
    split
    · rw [nth_set_z _ _ _ _ (by rw [rjLf_len, hl]; omega), if_neg (by omega)]; exact rjLf_rest js t lf n hl k (by omega) j (by omega)
    · exact rjLf_rest js t lf n hl k (by omega) j (by omega)
theorem rjLt_rest (js : List Jb) (t : Int) (lt lf : List Int) (n : Nat) (hl : lt.length = n) : ∀ k, k ≤ n → ∀ j, k ≤ j → nth (rjLt js t lt lf k) j = nth lt j
  | 0, _, _, _ => rfl
  | k + 1, hk, j, hj => by
    simp only [rjLt]
    split
    · rw [nth_set_z _ _ _ _ (by rw [rjLt_len, hl]; omega), if_neg (by omega)]; exact rjLt_rest js t lt lf n hl k (by omega) j (by omega)
    · exact rjLt_rest js t lt lf n hl k (by omega) j (by omega)
theorem rj_no {fr pa tk : Int} {ws : List Wn} {js : List Jb} (h : rjB fr pa ws js tk = false) : rjL fr pa ws js tk = [] ∧ rjI fr pa ws js tk = 0 := by simp [rjL, rjI, h]
theorem rj_yes {fr pa tk : Int} {ws : List Wn} {js : List Jb} (h : rjB fr pa ws js tk = true) : rjL fr pa ws js tk = (rjT fr pa ws js tk.toNat).lt ∧ rjI fr pa ws js tk = (rjT fr pa ws js tk.toNat).idl := by simp [rjL, rjI, h]

end Go.Proofs.Ytndhiecakojjgaf

namespace Go.Proofs.Ytndhiecakojjgaf
open Go

/-- Every number of a list lies between 0 and a limit. -/
def inL (zs : List Int) (n : Nat) (hi : Int) : Prop := zs.length = n ∧ ∀ j, j < n → 0 ≤ nth zs j ∧ nth zs j ≤ hi
theorem inL.set {zs : List Int} {n : Nat} {hi x : Int} (h : inL zs n hi) (i : Nat) (h0 : 0 ≤ x) (h1 : x ≤ hi) : inL (zs.set i x) n hi := by
  refine ⟨by simp [h.1], fun j hj => ?_⟩
  by_cases q : i < zs.length
  · rw [nth_set_z _ _ _ _ q]
    split
    · exact ⟨h0, h1⟩
    · exact h.2 j hj
  · rw [List.set_eq_of_length_le (by omega)]; exact h.2 j hj
theorem inL.mono {zs : List Int} {n : Nat} {hi hi' : Int} (h : inL zs n hi) (q : hi ≤ hi') : inL zs n hi' := ⟨h.1, fun j hj => by have := h.2 j hj; omega⟩
theorem inL_new (n : Nat) (hi : Int) (h : 0 ≤ hi) : inL (List.replicate n 0) n hi := ⟨by simp, fun j hj => by simp [nth, hj, h]⟩
theorem rjLf_in {js : List Jb} {t : Int} {lf : List Int} {n : Nat} (h : inL lf n 100000) (hj : ∀ k, k < n → 1 ≤ (elAt js k).a2 ∧ (elAt js k).a2 ≤ 100000) : ∀ k, k ≤ n → inL (rjLf js t lf k) n 100000
  | 0, _ => h
  | k + 1, hk => by
    have ih := rjLf_in (t := t) h hj k (by omega)
    have q := hj k (by omega)
    simp only [rjLf]
    split
    · exact ih.set k (by omega) (by omega)
    · exact ih
theorem rjCm_in {js : List Jb} {t : Int} {cm : List Int} {n : Nat} (h : inL cm n t) (ht : 0 ≤ t) : ∀ k, inL (rjCm js t cm k) n t
  | 0 => h
  | k + 1 => by
    have ih := rjCm_in (js := js) h ht k
    simp only [rjCm]
    split
    · exact ih.set k ht (Int.le_refl _)
    · exact ih
theorem rjLt_in {js : List Jb} {t : Int} {lt lf : List Int} {n : Nat} (h : inL lt n t) : ∀ k, k ≤ n → inL (rjLt js t lt lf k) n (t + 1)
  | 0, _ => h.mono (by omega)
  | k + 1, hk => by
    have ih := rjLt_in (js := js) (lf := lf) h k (by omega)
    have q := h.2 k (by omega)
    simp only [rjLt]
    split
    · exact ih.set k (by omega) (by omega)
    · exact ih
/-- The one whose turn it is has something left. -/
theorem rjBe_left (js : List Jb) (lf cm : List Int) (who : Int) : ∀ k, 0 ≤ rjBe js lf cm who k → 0 < nth lf (rjBe js lf cm who k).toNat
  | 0, h => by simp [rjBe] at h
  | k + 1, h => by
    simp only [rjBe] at h ⊢
    split
    · rename_i q; simpa using q.2.1
    · rename_i q
      rw [if_neg q] at h
      exact rjBe_left js lf cm who k h
structure RjIn (s : RjS) (n : Nat) (t : Int) : Prop where
  lt : inL s.lt n t
  lf : inL s.lf n 100000
  cm : inL s.cm n t
  i0 : 0 ≤ s.idl
  i1 : s.idl ≤ t
theorem rjGo_in {js : List Jb} {who t : Int} {s : RjS} (h : RjIn s js.length t) (ht : 0 ≤ t) (hj : ∀ k, k < js.length → 1 ≤ (elAt js k).a2 ∧ (elAt js k).a2 ≤ 100000) : RjIn (rjGo js who t s) js.length (t + 1) := by
  have a := rjLt_in (js := js) (lf := s.lf) h.lt js.length (Nat.le_refl _)
  have b := rjLf_in (t := t) h.lf hj js.length (Nat.le_refl _)
  have c := (rjCm_in (js := js) h.cm ht js.length).mono (show t ≤ t + 1 by omega)
  have i0 := h.i0
  have i1 := h.i1
  unfold rjGo
  split
  · rename_i q
    have p := rjBe_left _ _ _ _ _ q
    have e := rjBe_in js (rjLf js t s.lf js.length) (rjCm js t s.cm js.length) who js.length
    have r := b.2 (rjBe js (rjLf js t s.lf js.length) (rjCm js t s.cm js.length) who js.length).toNat (by omega)
    exact ⟨a, b.set _ (by omega) (by omega), c, i0, by show s.idl ≤ t + 1; omega⟩
  · exact ⟨a, b, c, by show 0 ≤ (if 0 ≤ who then s.idl + 1 else s.idl); split <;> omega, by show (if 0 ≤ who then s.idl + 1 else s.idl) ≤ t + 1; split <;> omega⟩
theorem rjT_in {fr pa : Int} {ws : List Wn} {js : List Jb} (hj : ∀ k, k < js.length → 1 ≤ (elAt js k).a2 ∧ (elAt js k).a2 ≤ 100000) : ∀ t : Nat, RjIn (rjT fr pa ws js t) js.length (t : Int)
  | 0 => ⟨inL_new _ _ (by simp), inL_new _ _ (by omega), inL_new _ _ (by simp), Int.le_refl 0, Int.le_refl 0⟩
  | t + 1 => by
    have ih := rjGo_in (who := owR fr pa ws (t : Int)) (rjT_in (fr := fr) (pa := pa) (ws := ws) hj t) (by omega) hj
    simpa [rjT] using ih
theorem rjB_facts {fr pa tk : Int} {ws : List Wn} {js : List Jb} (h : rjB fr pa ws js tk = true) : ppB fr pa ws = true ∧ js.length ≤ 20 ∧ (0 ≤ tk ∧ tk ≤ 5000) ∧ ∀ k, k < js.length → (0 ≤ (elAt js k).a0 ∧ (elAt js k).a0 ≤ pa - 1) ∧ (1 ≤ (elAt js k).a1 ∧ (elAt js k).a1 ≤ 100000) ∧ (1 ≤ (elAt js k).a2 ∧ (elAt js k).a2 ≤ 100000) := by
  simp only [rjB, Bool.and_eq_true, decide_eq_true_eq] at h
  refine ⟨h.1.1.1, h.1.1.2, in_facts h.1.2, fun k hk => ?_⟩
  have q := of_decide_eq_true h.2 k hk
  simp only [jbB, Bool.and_eq_true] at q
  exact ⟨in_facts q.1.1, in_facts q.1.2, in_facts q.2⟩

end Go.Proofs.Ytndhiecakojjgaf

namespace Go.Proofs.Ytndhiecakojjgaf
open Go

/-- What a job at work holds. -/
structure Jw where
  a0 : Int
  a1 : Int
  a2 : Int
  a3 : Int
  a4 : Int
  a5 : Int
instance : Inhabited Jw := ⟨⟨0, 0, 0, 0, 0, 0⟩⟩
def jwC (m : Jw) : Nat → Value
  | 0 => .int .i64 m.a0
  | 1 => .int .i64 m.a1
  | 2 => .int .i64 m.a2
  | 3 => .int .i64 m.a3
  | 4 => .int .i64 m.a4
  | _ => .int .i64 m.a5
def jwAt (js : List Jb) (lt lf cm : List Int) (k : Nat) : Jw := ⟨(elAt js k).a0, (elAt js k).a1, (elAt js k).a2, nth lf k, nth cm k, nth lt k⟩
def jwOf (js : List Jb) (lt lf cm : List Int) : List Jw := (List.range js.length).map (jwAt js lt lf cm)
theorem jwOf_len (js : List Jb) (lt lf cm : List Int) : (jwOf js lt lf cm).length = js.length := by simp [jwOf]
theorem jwOf_at {js : List Jb} {lt lf cm : List Int} {k : Nat} (h : k < js.length) : elAt (jwOf js lt lf cm) k = jwAt js lt lf cm k := by simp [jwOf, elAt, h]
theorem elAt_ext {α : Type} [Inhabited α] {xs ys : List α} (hl : xs.length = ys.length) (h : ∀ k, k < xs.length → elAt xs k = elAt ys k) : xs = ys := by
  apply List.ext_getElem hl
  intro i h1 h2
  have := h i h1
  simpa [elAt, h1, h2] using this
theorem jwOf_ext {js : List Jb} {lt lf cm : List Int} {L : List Jw} (hl : L.length = js.length) (h : ∀ k, k < js.length → elAt L k = jwAt js lt lf cm k) : L = jwOf js lt lf cm := by
  refine elAt_ext (by rw [hl, jwOf_len]) (fun k hk => ?_)
  rw [h k (by omega), jwOf_at (by omega)]
/-- A job that comes at a tick, or does not. -/
def cmX (t : Int) (x : Jw) : Jw := if t % x.a1 = 0 then ⟨x.a0, x.a1, x.a2, x.a2, t, if 0 < x.a3 then x.a5 + 1 else x.a5⟩ else x
def cmL (L : List Jw) (t : Int) : Nat → List Jw
  | 0 => L
  | k + 1 => (cmL L t k).set k (cmX t (elAt L k))
theorem cmL_len (L : List Jw) (t : Int) : ∀ k, (cmL L t k).length = L.length
  | 0 => rfl
  | k + 1 => by simp only [cmL, List.length_set, cmL_len L t k]
theorem cmL_rest (L : List Jw) (t : Int) : ∀ k, k ≤ L.length → ∀ j, k ≤ j → elAt (cmL L t k) j = elAt L j
  | 0, _, _, _ => rfl
  | k + 1, hk, j, hj => by
    rw [cmL, elAt_set _ _ _ _ (by rw [cmL_len]; omega), if_neg (by omega)]
    exact cmL_rest L t k (by omega) j (by omega)
theorem cmL_is {js : List Jb} {lt lf cm : List Int} (t : Int) (h1 : lt.length = js.length) (h2 : lf.length = js.length) (h3 : cm.length = js.length) : ∀ k, k ≤ js.length → cmL (jwOf js lt lf cm) t k = jwOf js (rjLt js t lt lf k) (rjLf js t lf k) (rjCm js t cm k)
  | 0, _ => rfl
  | k + 1, hk => by
    have ih := cmL_is t h1 h2 h3 k (by omega)
    refine jwOf_ext (by rw [cmL_len, jwOf_len]) (fun j hj => ?_)
    rw [cmL, elAt_set _ _ _ _ (by rw [cmL_len, jwOf_len]; omega)]
    have e1 := rjLt_rest js t lt lf js.length h1 k (by omega) k (Nat.le_refl _)
    have e2 := rjLf_rest js t lf js.length h2 k (by omega) k (Nat.le_refl _)
    have e3 : nth (rjCm js t cm k) k = nth cm k := by
      have : ∀ i, i ≤ js.length → ∀ j, i ≤ j → nth (rjCm js t cm i) j = nth cm j := by
        intro i
        induction i with
        | zero => intros; rfl
        | succ i ih2 =>
          intro hi j hj
          simp only [rjCm]
          split
          · rw [nth_set_z _ _ _ _ (by rw [rjCm_len, h3]; omega), if_neg (by omega)]; exact ih2 (by omega) j (by omega)
          · exact ih2 (by omega) j (by omega)
      exact this k (by omega) k (Nat.le_refl _)
    by_cases e : j = k
    · subst e
      rw [if_pos rfl, jwOf_at hj]
      unfold cmX jwAt
      simp only [rjLt, rjLf, rjCm, rjC, decide_eq_true_eq]
      by_cases q : t % (elAt js j).a1 = 0
      · rw [if_pos q, if_pos q, if_pos q, nth_set_z _ _ _ _ (by rw [rjLf_len, h2]; exact hj), nth_set_z _ _ _ _ (by rw [rjCm_len, h3]; exact hj), if_pos rfl, if_pos rfl]
        by_cases q2 : 0 < nth lf j
        · rw [if_pos q2, if_pos ⟨q, q2⟩, nth_set_z _ _ _ _ (by rw [rjLt_len, h1]; exact hj), if_pos rfl]
        · rw [if_neg q2, if_neg (fun h => q2 h.2), e1]
      · rw [if_neg q, if_neg q, if_neg q, if_neg (fun h => q h.1), e1, e2, e3]
    · rw [if_neg e, ih, jwOf_at hj]
      unfold jwAt
      have f1 : nth (rjLt js t lt lf (k + 1)) j = nth (rjLt js t lt lf k) j := by
        simp only [rjLt]
        split
        · rw [nth_set_z _ _ _ _ (by rw [rjLt_len, h1]; omega), if_neg e]
        · rfl
      have f2 : nth (rjLf js t lf (k + 1)) j = nth (rjLf js t lf k) j := by
        simp only [rjLf]
        split
        · rw [nth_set_z _ _ _ _ (by rw [rjLf_len, h2]; omega), if_neg e]
        · rfl
      have f3 : nth (rjCm js t cm (k + 1)) j = nth (rjCm js t cm k) j := by
        simp only [rjCm]
        split
        · rw [nth_set_z _ _ _ _ (by rw [rjCm_len, h3]; omega), if_neg e]
        · rfl
      rw [f1, f2, f3]
/-- Whose turn it is. -/
def nxN (L : List Jw) (who : Int) : Nat → Int
  | 0 => -1
  | k + 1 => if (elAt L k).a0 = who ∧ 0 < (elAt L k).a3 ∧ (nxN L who k = -1 ∨ (elAt L k).a4 < (elAt L (nxN L who k).toNat).a4) then (k : Int) else nxN L who k
theorem nxN_in (L : List Jw) (who : Int) : ∀ k, -1 ≤ nxN L who k ∧ nxN L who k < (k : Int)
  | 0 => by simp [nxN]
  | k + 1 => by
    have ih := nxN_in L who k
    simp only [nxN]
    split <;> omega
theorem nxN_is {js : List Jb} {lt lf cm : List Int} (who : Int) : ∀ k, k ≤ js.length → nxN (jwOf js lt lf cm) who k = rjBe js lf cm who k
  | 0, _ => rfl
  | k + 1, hk => by
    have ih := nxN_is (js := js) (lt := lt) (lf := lf) (cm := cm) who k (by omega)
    have b := rjBe_in js lf cm who k
    simp only [nxN, rjBe]
    rw [ih, jwOf_at (by omega)]
    have f : (rjBe js lf cm who k = -1 ∨ (jwAt js lt lf cm k).a4 < (elAt (jwOf js lt lf cm) (rjBe js lf cm who k).toNat).a4) ↔ (rjBe js lf cm who k < 0 ∨ nth cm k < nth cm (rjBe js lf cm who k).toNat) := by
      by_cases q : rjBe js lf cm who k < 0
      · exact ⟨fun _ => .inl q, fun _ => .inl (by omega)⟩
      · rw [jwOf_at (by omega)]
        exact ⟨fun h => h.elim (fun h => by omega) .inr, fun h => h.elim (fun h => absurd h q) .inr⟩
    by_cases h : (elAt js k).a0 = who ∧ 0 < nth lf k ∧ (rjBe js lf cm who k < 0 ∨ nth cm k < nth cm (rjBe js lf cm who k).toNat)
    · rw [if_pos h, if_pos ⟨h.1, h.2.1, f.2 h.2.2⟩]
    · rw [if_neg h, if_neg (fun x => h ⟨x.1, x.2.1, f.1 x.2.2⟩)]
theorem nxN_left {js : List Jb} {lf cm : List Int} {who : Int} (h : 0 ≤ rjBe js lf cm who js.length) : 0 < nth lf (rjBe js lf cm who js.length).toNat := rjBe_left js lf cm who js.length h
/-- Work on one. -/
def wkX (x : Jw) : Jw := ⟨x.a0, x.a1, x.a2, x.a3 - 1, x.a4, x.a5⟩
theorem wk_is {js : List Jb} {lt lf cm : List Int} {b : Nat} (hb : b < js.length) (h2 : lf.length = js.length) : (jwOf js lt lf cm).set b (wkX (elAt (jwOf js lt lf cm) b)) = jwOf js lt (lf.set b (nth lf b - 1)) cm := by
  refine jwOf_ext (by rw [List.length_set, jwOf_len]) (fun j hj => ?_)
  rw [elAt_set _ _ _ _ (by rw [jwOf_len]; exact hb), jwOf_at hb, jwOf_at hj]
  unfold jwAt wkX
  rw [nth_set_z _ _ _ _ (by rw [h2]; exact hb)]
  by_cases e : j = b
  · subst e
    rw [if_pos rfl, if_pos rfl]
  · rw [if_neg e, if_neg e]
/-- How often each was late. -/
def ltL (L : List Jw) (k : Nat) : List Int := (L.take k).map (·.a5)
theorem ltL_step {L : List Jw} {k : Nat} (h : k < L.length) : ltL L (k + 1) = ltL L k ++ [(elAt L k).a5] := by
  have e : L.take (k + 1) = L.take k ++ [L[k]] := by rw [List.take_add_one, List.getElem?_eq_getElem h]; rfl
  have e2 : elAt L k = L[k] := by simp [elAt, h]
  rw [ltL, e, List.map_append, List.map_singleton, e2]
  rfl
theorem ltL_is {js : List Jb} {lt lf cm : List Int} (h1 : lt.length = js.length) : ltL (jwOf js lt lf cm) js.length = lt := by
  have e : (jwOf js lt lf cm).take js.length = jwOf js lt lf cm := List.take_of_length_le (by rw [jwOf_len]; exact Nat.le_refl _)
  unfold ltL
  rw [e]
  apply List.ext_getElem (by rw [List.length_map, jwOf_len, h1])
  intro i h2 h3
  simp [jwOf, jwAt, nth, h3]
/-- One tick of the program's way. -/
theorem rjGo_no {js : List Jb} {t : Int} {s : RjS} (hj : ∀ k, k < js.length → 0 ≤ (elAt js k).a0) : rjGo js (-1) t s = ⟨rjLt js t s.lt s.lf js.length, rjLf js t s.lf js.length, rjCm js t s.cm js.length, s.idl⟩ := by
  have : ∀ (lf cm : List Int) k, k ≤ js.length → rjBe js lf cm (-1) k = -1 := by
    intro lf cm k
    induction k with
    | zero => intro _; rfl
    | succ k ih =>
      intro hk
      have q := hj k (by omega)
      simp only [rjBe]
      rw [if_neg (fun h => by omega)]
      exact ih (by omega)
  unfold rjGo
  rw [this _ _ _ (Nat.le_refl _), if_neg (by omega), if_neg (by omega)]
theorem rjGo_work {js : List Jb} {who t : Int} {s : RjS} {b : Nat} (e : rjBe js (rjLf js t s.lf js.length) (rjCm js t s.cm js.length) who js.length = (b : Int)) : rjGo js who t s = ⟨rjLt js t s.lt s.lf js.length, (rjLf js t s.lf js.length).set b (nth (rjLf js t s.lf js.length) b - 1), rjCm js t s.cm js.length, s.idl⟩ := by
  unfold rjGo
  rw [e, if_pos (by omega)]
  rfl
theorem rjGo_idle {js : List Jb} {who t : Int} {s : RjS} (hw : 0 ≤ who) (e : rjBe js (rjLf js t s.lf js.length) (rjCm js t s.cm js.length) who js.length = -1) : rjGo js who t s = ⟨rjLt js t s.lt s.lf js.length, rjLf js t s.lf js.length, rjCm js t s.cm js.length, s.idl + 1⟩ := by
  unfold rjGo
  rw [e, if_neg (by omega), if_pos hw]

end Go.Proofs.Ytndhiecakojjgaf
