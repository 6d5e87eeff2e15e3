/-
  A record's bytes in plain numbers: a change in one byte or four, rows one behind the other; how long they are. No program here.
-/
import Derived.Test.YthdnokilfmbgoagRcPure
namespace Go.Proofs.Ythdnokilfmbgoag

def chL (c : Int) : List Int := if inB c (-100) 100 = true then [c + 100] else [255, (c + 60000) / 65536, (c + 60000) / 256 % 256, (c + 60000) % 256]
theorem chL_y {c : Int} (h : inB c (-100) 100 = true) : chL c = [c + 100] := by rw [chL, if_pos h]
theorem chL_n {c : Int} (h : inB c (-100) 100 = false) : chL c = [255, (c + 60000) / 65536, (c + 60000) / 256 % 256, (c + 60000) % 256] := by rw [chL, if_neg (by rw [h]; simp)]
theorem chL_len (c : Int) : 1 ≤ (chL c).length ∧ (chL c).length ≤ 4 := by unfold chL; split <;> simp
/-- The row ahead; its value in a column. -/
def ahL (zss : List (List Int)) : Nat → List Int
  | 0 => List.replicate (wdN zss) 0
  | i + 1 => nthS zss i
def chC (zss : List (List Int)) (i k : Nat) : Int := nth (nthS zss i) k - nth (ahL zss i) k
theorem ahL_len {zss : List (List Int)} (h : rcB zss = true) {i : Nat} (hi : i < zss.length) : (ahL zss i).length = wdN zss := by
  cases i with
  | zero => simp [ahL]
  | succ j => exact ((rcB_facts h).2 j (by omega)).1
theorem ahL_in {zss : List (List Int)} (h : rcB zss = true) {i k : Nat} (hi : i < zss.length) (hk : k < wdN zss) : -30000 ≤ nth (ahL zss i) k ∧ nth (ahL zss i) k ≤ 30000 := by
  cases i with
  | zero => simp [ahL, nth, hk]
  | succ j => have := (rcB_facts h).2 j (by omega); exact this.2.2.2 k (by rw [this.1]; exact hk)
theorem row_in {zss : List (List Int)} (h : rcB zss = true) {i k : Nat} (hi : i < zss.length) (hk : k < wdN zss) : -30000 ≤ nth (nthS zss i) k ∧ nth (nthS zss i) k ≤ 30000 := by
  have := (rcB_facts h).2 i hi; exact this.2.2.2 k (by rw [this.1]; exact hk)
theorem chC_in {zss : List (List Int)} (h : rcB zss = true) {i k : Nat} (hi : i < zss.length) (hk : k < wdN zss) : -60000 ≤ chC zss i k ∧ chC zss i k ≤ 60000 := by
  have a := ahL_in h hi hk; have b := row_in h hi hk; unfold chC; omega
theorem wdN_le {zss : List (List Int)} (h : rcB zss = true) : wdN zss ≤ 8 := by
  by_cases h0 : zss.length = 0
  · rw [wdN_nil h0]; omega
  · exact ((rcB_facts h).2 0 (by omega)).2.2.1
def pkJ (zss : List (List Int)) (i : Nat) : Nat → List Int
  | 0 => []
  | k + 1 => pkJ zss i k ++ chL (chC zss i k)
def pkI (zss : List (List Int)) : Nat → List Int
  | 0 => [(wdN zss : Int), (zss.length : Int)]
  | i + 1 => pkI zss i ++ pkJ zss i (wdN zss)
def pkK (zss : List (List Int)) (i k : Nat) : List Int := pkI zss i ++ pkJ zss i k
def pkF (zss : List (List Int)) : List Int := pkI zss zss.length
def pkB (zss : List (List Int)) : Bool := rcB zss && decide ((pkF zss).length ≤ 1500)
def pkL (zss : List (List Int)) : List Int := if pkB zss = true then pkF zss else []
theorem pkK_zero (zss : List (List Int)) (i : Nat) : pkK zss i 0 = pkI zss i := by simp [pkK, pkJ]
theorem pkK_succ (zss : List (List Int)) (i k : Nat) : pkK zss i (k + 1) = pkK zss i k ++ chL (chC zss i k) := by simp [pkK, pkJ]
theorem pkK_row (zss : List (List Int)) (i : Nat) : pkK zss i (wdN zss) = pkI zss (i + 1) := rfl
theorem pkJ_len (zss : List (List Int)) (i : Nat) : ∀ k, (pkJ zss i k).length ≤ 4 * k
  | 0 => by simp [pkJ]
  | k + 1 => by have := pkJ_len zss i k; have := chL_len (chC zss i k); rw [pkJ, List.length_append]; omega
theorem pkI_len {zss : List (List Int)} (h : wdN zss ≤ 8) : ∀ i, (pkI zss i).length ≤ 2 + 32 * i
  | 0 => by simp [pkI]
  | i + 1 => by have := pkI_len h i; have := pkJ_len zss i (wdN zss); rw [pkI, List.length_append]; omega
theorem pkK_len {zss : List (List Int)} (h : rcB zss = true) {i k : Nat} (hi : i ≤ zss.length) (hk : k ≤ wdN zss) : (pkK zss i k).length ≤ 7000 := by
  have a := pkI_len (wdN_le h) i; have b := pkJ_len zss i k; have c := wdN_le h; have d := (rcB_facts h).1
  rw [pkK, List.length_append]; omega
theorem pkJ_mono (zss : List (List Int)) (i : Nat) {k : Nat} : ∀ {n : Nat}, k ≤ n → (pkJ zss i k).length ≤ (pkJ zss i n).length
  | 0, h => by have : k = 0 := by omega
               subst this; omega
  | n + 1, h => by
    by_cases e : k = n + 1
    · subst e; omega
    · have := pkJ_mono zss i (k := k) (n := n) (by omega); rw [pkJ, List.length_append]; omega
theorem pkI_mono (zss : List (List Int)) {i : Nat} : ∀ {n : Nat}, i ≤ n → (pkI zss i).length ≤ (pkI zss n).length
  | 0, h => by have : i = 0 := by omega
               subst this; omega
  | n + 1, h => by
    by_cases e : i = n + 1
    · subst e; omega
    · have := pkI_mono zss (i := i) (n := n) (by omega); rw [pkI, List.length_append]; omega
theorem pkK_mono (zss : List (List Int)) {i k : Nat} (hi : i < zss.length) (hk : k ≤ wdN zss) : (pkK zss i k).length ≤ (pkF zss).length := by
  have a := pkJ_mono zss i hk
  have b := pkI_mono zss (i := i + 1) (n := zss.length) (by omega)
  rw [pkI, List.length_append] at b
  rw [pkK, List.length_append, pkF]; omega
theorem pkL_no {zss : List (List Int)} (h : pkB zss = false) : pkL zss = [] := by rw [pkL, if_neg (by rw [h]; simp)]
theorem pkL_yes {zss : List (List Int)} (h : pkB zss = true) : pkL zss = pkF zss := by rw [pkL, if_pos h]
theorem pkL_len (zss : List (List Int)) : (pkL zss).length ≤ 1500 := by
  unfold pkL
  split
  · rename_i h; rw [pkB, Bool.and_eq_true, decide_eq_true_eq] at h; exact h.2
  · simp

end Go.Proofs.Ythdnokilfmbgoag
