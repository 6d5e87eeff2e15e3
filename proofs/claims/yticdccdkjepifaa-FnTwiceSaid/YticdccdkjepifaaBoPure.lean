/-
  What is taken of two networks, in plain lists. No program here.
-/
import Derived.Test.YticdccdkjepifaaWxOwn
import Derived.Test.YticdccdkjepifaaMBuGetM
namespace Go.Proofs.Yticdccdkjepifaa
open Go Go.RowKit

/-- What is due, how many were missed, what was taken. -/
structure Bst where
  n : Int
  m : Int
  t : List Wc
/-- One frame more. -/
def boStep (rl rk : Int) (st : Bst) (zs : List Int) : Bst :=
  if gtC zs = 0 then (if acB rl st.n rk (gtL zs) (gtS zs) (gtD zs).length = true then ⟨acN rl st.n rk (gtL zs) (gtS zs) (gtD zs).length, st.m + acM rl st.n rk (gtL zs) (gtS zs) (gtD zs).length, st.t ++ [⟨gtL zs, gtS zs, gtD zs⟩]⟩ else st) else st
theorem bo_bad {rl rk : Int} {st : Bst} {zs : List Int} (h : ¬ gtC zs = 0) : boStep rl rk st zs = st := by simp [boStep, h]
theorem bo_no {rl rk : Int} {st : Bst} {zs : List Int} (h : gtC zs = 0) (h2 : acB rl st.n rk (gtL zs) (gtS zs) (gtD zs).length = false) : boStep rl rk st zs = st := by simp [boStep, h, h2]
theorem bo_yes {rl rk : Int} {st : Bst} {zs : List Int} (h : gtC zs = 0) (h2 : acB rl st.n rk (gtL zs) (gtS zs) (gtD zs).length = true) : boStep rl rk st zs = ⟨acN rl st.n rk (gtL zs) (gtS zs) (gtD zs).length, st.m + acM rl st.n rk (gtL zs) (gtS zs) (gtD zs).length, st.t ++ [⟨gtL zs, gtS zs, gtD zs⟩]⟩ := by simp [boStep, h, h2]
def boF (rl rk : Int) (st : Bst) (zss : List (List Int)) : Bst := zss.foldl (boStep rl rk) st
theorem boF_nil (rl rk : Int) (st : Bst) : boF rl rk st [] = st := rfl
theorem boF_cons (rl rk : Int) (st : Bst) (z : List Int) (zss : List (List Int)) : boF rl rk st (z :: zss) = boF rl rk (boStep rl rk st z) zss := rfl
/-- The whole. -/
def boR (rl n rk : Int) (xs ys : List (List Int)) : Bst := if xs.length ≤ 200 ∧ ys.length ≤ 200 then boF rl rk ⟨n, 0, []⟩ (inter xs ys) else ⟨n, 0, []⟩
theorem acM_bd (rl n k wl s : Int) (len : Nat) : 0 ≤ acM rl n k wl s len ∧ acM rl n k wl s len ≤ 255 := by
  unfold acM
  split
  · exact acD_bd n s
  · omega
theorem boStep_bd {rl rk : Int} {st : Bst} {zs : List Int} {k : Nat} (h : 0 ≤ st.m ∧ st.m ≤ 255 * (k : Int)) (ht : st.t.length ≤ k) : (0 ≤ (boStep rl rk st zs).m ∧ (boStep rl rk st zs).m ≤ 255 * ((k + 1 : Nat) : Int)) ∧ (boStep rl rk st zs).t.length ≤ k + 1 := by
  unfold boStep
  have := acM_bd rl st.n rk (gtL zs) (gtS zs) (gtD zs).length
  split
  · split
    · simp; omega
    · omega
  · omega
theorem boF_len {rl rk : Int} : ∀ (zss : List (List Int)) (st : Bst) (k : Nat), (0 ≤ st.m ∧ st.m ≤ 255 * (k : Int)) → st.t.length ≤ k → (boF rl rk st zss).t.length ≤ k + zss.length
  | [], st, k, _, h2 => by simpa [boF] using h2
  | z :: zss, st, k, h1, h2 => by
    rw [boF_cons]
    have hb := boStep_bd (rl := rl) (rk := rk) (zs := z) h1 h2
    have := boF_len (rl := rl) (rk := rk) zss (boStep rl rk st z) (k + 1) hb.1 hb.2
    simp; omega
theorem boF_dat {rl rk : Int} : ∀ (zss : List (List Int)) (st : Bst), (∀ x ∈ st.t, x.zs.length ≤ 32) → ∀ x ∈ (boF rl rk st zss).t, x.zs.length ≤ 32
  | [], st, h => by simpa [boF] using h
  | z :: zss, st, h => by
    rw [boF_cons]
    refine boF_dat zss _ ?_
    unfold boStep
    split
    · split
      · intro x hx
        simp only [List.mem_append, List.mem_singleton] at hx
        rcases hx with hx | rfl
        · exact h x hx
        · exact gtD_small z
      · exact h
    · exact h
theorem boR_len (rl n rk : Int) (xs ys : List (List Int)) : (boR rl n rk xs ys).t.length ≤ 400 := by
  unfold boR
  split
  · rename_i h
    have := boF_len (rl := rl) (rk := rk) (inter xs ys) ⟨n, 0, []⟩ 0 (by simp) (by simp)
    have e := inter_len _ xs ys rfl
    omega
  · simp
theorem boR_dat (rl n rk : Int) (xs ys : List (List Int)) : ∀ x ∈ (boR rl n rk xs ys).t, x.zs.length ≤ 32 := by
  unfold boR
  split
  · exact boF_dat _ _ (by simp)
  · simp
theorem inter_map {α β : Type} (f : α → β) : ∀ (n : Nat) (xs ys : List α), xs.length + ys.length = n → (inter xs ys).map f = inter (xs.map f) (ys.map f)
  | n, [], ys, _ => by rw [inter_nil, List.map_nil, inter_nil]
  | 0, x :: xs, ys, h => by simp at h
  | n + 1, x :: xs, ys, h => by
    rw [inter_cons, List.map_cons, List.map_cons, inter_cons, inter_map f n ys xs (by simp at h; omega)]

end Go.Proofs.Yticdccdkjepifaa
