/-
  Jobs at work, each with what is left of it, when it came, how often it was late: what the program keeps, held against the plain answer. No program here.
-/
import Derived.Test.YtndhiecakojjgazRjBnd
import Derived.Test.YtndhiecakojjgazRowE
namespace Go.Proofs.Ytndhiecakojjgaz
open Go

/-- What a job at work holds. -/
structure Jw where
  a0 : Int
  a1 : Int
  a2 : Int
  a3 : Int
  a4 : Int
  a5 : Int
instance : Inhabited Jw := ⟨⟨0, 0, 0, 0, 0, 0⟩⟩
def jwC (m : Jw) : Nat → Value
  | 0 => .int .i64 m.a0
  | 1 => .int .i64 m.a1
  | 2 => .int .i64 m.a2
  | 3 => .int .i64 m.a3
  | 4 => .int .i64 m.a4
  | _ => .int .i64 m.a5
def jwAt (js : List Jb) (lt lf cm : List Int) (k : Nat) : Jw := ⟨(elAt js k).a0, (elAt js k).a1, (elAt js k).a2, nth lf k, nth cm k, nth lt k⟩
def jwOf (js : List Jb) (lt lf cm : List Int) : List Jw := (List.range js.length).map (jwAt js lt lf cm)
theorem jwOf_len (js : List Jb) (lt lf cm : List Int) : (jwOf js lt lf cm).length = js.length := by simp [jwOf]
theorem jwOf_at {js : List Jb} {lt lf cm : List Int} {k : Nat} (h : k < js.length) : elAt (jwOf js lt lf cm) k = jwAt js lt lf cm k := by simp [jwOf, elAt, h]
theorem elAt_ext {α : Type} [Inhabited α] {xs ys : List α} (hl : xs.length = ys.length) (h : ∀ k, k < xs.length → elAt xs k = elAt ys k) : xs = ys := by
  apply List.ext_getElem hl
  intro i h1 h2
  have := h i h1
  simpa [elAt, h1, h2] using this
theorem jwOf_ext {js : List Jb} {lt lf cm : List Int} {L : List Jw} (hl : L.length = js.length) (h : ∀ k, k < js.length → elAt L k = jwAt js lt lf cm k) : L = jwOf js lt lf cm := by
  refine elAt_ext (by rw [hl, jwOf_len]) (fun k hk => ?_)
  rw [h k (by omega), jwOf_at (by omega)]
/-- A job that comes at a tick, or does not. -/
def cmX (t : Int) (x : Jw) : Jw := if t % x.a1 = 0 then ⟨x.a0, x.a1, x.a2, x.a2, t, if 0 < x.a3 then x.a5 + 1 else x.a5⟩ else x
def cmL (L : List Jw) (t : Int) : Nat → List Jw
  | 0 => L
  | k + 1 => (cmL L t k).set k (cmX t (elAt L k))
theorem cmL_len (L : List Jw) (t : Int) : ∀ k, (cmL L t k).length = L.length
  | 0 => rfl
  | k + 1 => by simp only [cmL, List.length_set, cmL_len L t k]
theorem cmL_rest (L : List Jw) (t : Int) : ∀ k, k ≤ L.length → ∀ j, k ≤ j → elAt (cmL L t k) j = elAt L j
  | 0, _, _, _ => rfl
  | k + 1, hk, j, hj => by
    rw [cmL, elAt_set _ _ _ _ (by rw [cmL_len]; omega), if_neg (by omega)]
    exact cmL_rest L t k (by omega) j (by omega)
theorem cmL_is {js : List Jb} {lt lf cm : List Int} (t : Int) (h1 : lt.length = js.length) (h2 : lf.length = js.length) (h3 : cm.length = js.length) : ∀ k, k ≤ js.length → cmL (jwOf js lt lf cm) t k = jwOf js (rjLt js t lt lf k) (rjLf js t lf k) (rjCm js t cm k)
  | 0, _ => rfl
  | k + 1, hk => by
    have ih := cmL_is t h1 h2 h3 k (by omega)
    refine jwOf_ext (by rw [cmL_len, jwOf_len]) (fun j hj => ?_)
    rw [cmL, elAt_set _ _ _ _ (by rw [cmL_len, jwOf_len]; omega)]
    have e1 := rjLt_rest js t lt lf js.length h1 k (by omega) k (Nat.le_refl _)
    have e2 := rjLf_rest js t lf js.length h2 k (by omega) k (Nat.le_refl _)
    have e3 : nth (rjCm js t cm k) k = nth cm k := by
      have : ∀ i, i ≤ js.length → ∀ j, i ≤ j → nth (rjCm js t cm i) j = nth cm j := by
        intro i
        induction i with
        | zero => intros; rfl
        | succ i ih2 =>
          intro hi j hj
          simp only [rjCm]
          split
          · rw [nth_set_z _ _ _ _ (by rw [rjCm_len, h3]; omega), if_neg (by omega)]; exact ih2 (by omega) j (by omega)
          · exact ih2 (by omega) j (by omega)
      exact this k (by omega) k (Nat.le_refl _)
    by_cases e : j = k
    · subst e
      rw [if_pos rfl, jwOf_at hj]
      unfold cmX jwAt
      simp only [rjLt, rjLf, rjCm, rjC, decide_eq_true_eq]
      by_cases q : t % (elAt js j).a1 = 0
      · rw [if_pos q, if_pos q, if_pos q, nth_set_z _ _ _ _ (by rw [rjLf_len, h2]; exact hj), nth_set_z _ _ _ _ (by rw [rjCm_len, h3]; exact hj), if_pos rfl, if_pos rfl]
        by_cases q2 : 0 < nth lf j
        · rw [if_pos q2, if_pos ⟨q, q2⟩, nth_set_z _ _ _ _ (by rw [rjLt_len, h1]; exact hj), if_pos rfl]
        · rw [if_neg q2, if_neg (fun h => q2 h.2), e1]
      · rw [if_neg q, if_neg q, if_neg q, if_neg (fun h => q h.1), e1, e2, e3]
    · rw [if_neg e, ih, jwOf_at hj]
      unfold jwAt
      have f1 : nth (rjLt js t lt lf (k + 1)) j = nth (rjLt js t lt lf k) j := by
        simp only [rjLt]
        split
        · rw [nth_set_z _ _ _ _ (by rw [rjLt_len, h1]; omega), if_neg e]
        · rfl
      have f2 : nth (rjLf js t lf (k + 1)) j = nth (rjLf js t lf k) j := by
        simp only [rjLf]
        split
        · rw [nth_set_z _ _ _ _ (by rw [rjLf_len, h2]; omega), if_neg e]
        · rfl
      have f3 : nth (rjCm js t cm (k + 1)) j = nth (rjCm js t cm k) j := by
        simp only [rjCm]
        split
        · rw [nth_set_z _ _ _ _ (by rw [rjCm_len, h3]; omega), if_neg e]
        · rfl
      rw [f1, f2, f3]
/-- Whose turn it is. -/
def nxN (L : List Jw) (who : Int) : Nat → Int
  | 0 => -1
  | k + 1 => if (elAt L k).a0 = who ∧ 0 < (elAt L k).a3 ∧ (nxN L who k = -1 ∨ (elAt L k).a4 < (elAt L (nxN L who k).toNat).a4) then (k : Int) else nxN L who k
theorem nxN_in (L : List Jw) (who : Int) : ∀ k, -1 ≤ nxN L who k ∧ nxN L who k < (k : Int)
  | 0 => by simp [nxN]
  | k + 1 => by
    have ih := nxN_in L who k
    simp only [nxN]
    split <;> omega
theorem nxN_is {js : List Jb} {lt lf cm : List Int} (who : Int) : ∀ k, k ≤ js.length → nxN (jwOf js lt lf cm) who k = rjBe js lf cm who k
  | 0, _ => rfl
  | k + 1, hk => by
    have ih := nxN_is (js := js) (lt := lt) (lf := lf) (cm := cm) who k (by omega)
    have b := rjBe_in js lf cm who k
    simp only [nxN, rjBe]
    rw [ih, jwOf_at (by omega)]
    have f : (rjBe js lf cm who k = -1 ∨ (jwAt js lt lf cm k).a4 < (elAt (jwOf js lt lf cm) (rjBe js lf cm who k).toNat).a4) ↔ (rjBe js lf cm who k < 0 ∨ nth cm k < nth cm (rjBe js lf cm who k).toNat) := by
      by_cases q : rjBe js lf cm who k < 0
      · exact ⟨fun _ => .inl q, fun _ => .inl (by omega)⟩
      · rw [jwOf_at (by omega)]
        exact ⟨fun h => h.elim (fun h => by omega) .inr, fun h => h.elim (fun h => absurd h q) .inr⟩
    by_cases h : (elAt js k).a0 = who ∧ 0 < nth lf k ∧ (rjBe js lf cm who k < 0 ∨ nth cm k < nth cm (rjBe js lf cm who k).toNat)
    · rw [if_pos h, if_pos ⟨h.1, h.2.1, f.2 h.2.2⟩]
    · rw [if_neg h, if_neg (fun x => h ⟨x.1, x.2.1, f.1 x.2.2⟩)]
theorem nxN_left {js : List Jb} {lf cm : List Int} {who : Int} (h : 0 ≤ rjBe js lf cm who js.length) : 0 < nth lf (rjBe js lf cm who js.length).toNat := rjBe_left js lf cm who js.length h
/-- Work on one. -/
def wkX (x : Jw) : Jw := ⟨x.a0, x.a1, x.a2, x.a3 - 1, x.a4, x.a5⟩
theorem wk_is {js : List Jb} {lt lf cm : List Int} {b : Nat} (hb : b < js.length) (h2 : lf.length = js.length) : (jwOf js lt lf cm).set b (wkX (elAt (jwOf js lt lf cm) b)) = jwOf js lt (lf.set b (nth lf b - 1)) cm := by
  refine jwOf_ext (by rw [List.length_set, jwOf_len]) (fun j hj => ?_)
  rw [elAt_set _ _ _ _ (by rw [jwOf_len]; exact hb), jwOf_at hb, jwOf_at hj]
  unfold jwAt wkX
  rw [nth_set_z _ _ _ _ (by rw [h2]; exact hb)]
  by_cases e : j = b
  · subst e
    rw [if_pos rfl, if_pos rfl]
  · rw [if_neg e, if_neg e]
/-- How often each was late. -/
def ltL (L : List Jw) (k : Nat) : List Int := (L.take k).map (·.a5)
theorem ltL_step {L : List Jw} {k : Nat} (h : k < L.length) : ltL L (k + 1) = ltL L k ++ [(elAt L k).a5] := by
  have e : L.take (k + 1) = L.take k ++ [L[k]] := by rw [List.take_add_one, List.getElem?_eq_getElem h]; rfl
  have e2 : elAt L k = L[k] := by simp [elAt, h]
  rw [ltL, e, List.map_append, List.map_singleton, e2]
  rfl
theorem ltL_is {js : List Jb} {lt lf cm : List Int} (h1 : lt.length = js.length) : ltL (jwOf js lt lf cm) js.length = lt := by
  have e : (jwOf js lt lf cm).take js.length = jwOf js lt lf cm := List.take_of_length_le (by rw [jwOf_len]; exact Nat.le_refl _)
  unfold ltL
  rw [e]
  apply List.ext_getElem (by rw [List.length_map, jwOf_len, h1])
  intro i h2 h3
  simp [jwOf, jwAt, nth, h3]
/-- One tick of the program's way. -/
theorem rjGo_no {js : List Jb} {t : Int} {s : RjS} (hj : ∀ k, k < js.length → 0 ≤ (elAt js k).a0) : rjGo js (-1) t s = ⟨rjLt js t s.lt s.lf js.length, rjLf js t s.lf js.length, rjCm js t s.cm js.length, s.idl⟩ := by
  have : ∀ (lf cm : List Int) k, k ≤ js.length → rjBe js lf cm (-1) k = -1 := by
    intro lf cm k
    induction k with
    | zero => intro _; rfl
    | succ k ih =>
      intro hk
      have q := hj k (by omega)
      simp only [rjBe]
      rw [if_neg (fun h => by omega)]
      exact ih (by omega)
  unfold rjGo
  rw [this _ _ _ (Nat.le_refl _), if_neg (by omega), if_neg (by omega)]
theorem rjGo_work {js : List Jb} {who t : Int} {s : RjS} {b : Nat} (e : rjBe js (rjLf js t s.lf js.length) (rjCm js t s.cm js.length) who js.length = (b : Int)) : rjGo js who t s = ⟨rjLt js t s.lt s.lf js.length, (rjLf js t s.lf js.length).set b (nth (rjLf js t s.lf js.length) b - 1), rjCm js t s.cm js.length, s.idl⟩ := by
  unfold rjGo
  rw [e, if_pos (by omega)]
  rfl
theorem rjGo_idle {js : List Jb} {who t : Int} {s : RjS} (hw : 0 ≤ who) (e : rjBe js (rjLf js t s.lf js.length) (rjCm js t s.cm js.length) who js.length = -1) : rjGo js who t s = ⟨rjLt js t s.lt s.lf js.length, rjLf js t s.lf js.length, rjCm js t s.cm js.length, s.idl + 1⟩ := by
  unfold rjGo
  rw [e, if_neg (by omega), if_pos hw]

end Go.Proofs.Ytndhiecakojjgaz
