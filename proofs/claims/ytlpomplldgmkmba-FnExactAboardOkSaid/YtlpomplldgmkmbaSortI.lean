/-
  The library's sort of whole numbers, over a list that a call has made: the same slice owns the sorted list. No condition but the length's bound. The sorted list, in plain numbers.
-/
import Derived.Test.YtlpomplldgmkmbaSortLayI
import Derived.Test.YtlpomplldgmkmbaApps1
import Derived.Sort.OwnSortedInts
namespace Go.Proofs.Ytlpomplldgmkmba
open Go.RowKit Go.Sort

/-- The sorted list. -/
def srt (zs : List Int) : List Int := zs.mergeSort fun x y => decide (x ≤ y)
theorem srt_perm (zs : List Int) : (srt zs).Perm zs := List.mergeSort_perm _ _
theorem srt_len (zs : List Int) : (srt zs).length = zs.length := List.length_mergeSort _
theorem nth_in {zs : List Int} {i : Nat} (h : i < zs.length) : nth zs i ∈ zs := by unfold nth; rw [List.getElem?_eq_getElem h]; exact List.getElem_mem h
theorem nth_out {zs : List Int} {i : Nat} (h : zs.length ≤ i) : nth zs i = 0 := by unfold nth; rw [List.getElem?_eq_none h]; rfl
theorem nth_of_mem {zs : List Int} {x : Int} (h : x ∈ zs) : ∃ i, i < zs.length ∧ nth zs i = x := by
  obtain ⟨i, hi, e⟩ := List.getElem_of_mem h
  exact ⟨i, hi, by unfold nth; rw [List.getElem?_eq_getElem hi]; exact e⟩
theorem srt_all {zs : List Int} {P : Int → Prop} (h : ∀ i, i < zs.length → P (nth zs i)) : ∀ i, i < (srt zs).length → P (nth (srt zs) i) := by
  intro i hi
  have hm := (srt_perm zs).mem_iff.1 (nth_in hi)
  obtain ⟨j, hj, e⟩ := nth_of_mem hm
  rw [← e]; exact h j hj
theorem srt_fit {zs : List Int} (h : ∀ i : Nat, -9223372036854775808 ≤ nth zs i ∧ nth zs i ≤ 9223372036854775807) (i : Nat) : -9223372036854775808 ≤ nth (srt zs) i ∧ nth (srt zs) i ≤ 9223372036854775807 := by
  by_cases hi : i < (srt zs).length
  · exact srt_all (P := fun x => -9223372036854775808 ≤ x ∧ x ≤ 9223372036854775807) (fun j _ => h j) i hi
  · rw [nth_out (by omega)]; omega
theorem srt_sorted (zs : List Int) : (srt zs).Pairwise (fun x y => x ≤ y) := by
  have h := List.pairwise_mergeSort (le := fun x y : Int => decide (x ≤ y)) (by intro a b c h1 h2; simp only [decide_eq_true_eq] at h1 h2 ⊢; omega) (by intro a b; simp only [Bool.or_eq_true, decide_eq_true_eq]; omega) zs
  exact h.imp (by intro a b hab; simpa using hab)
theorem srt_same {xs ys : List Int} (hp : xs.Perm ys) (hs : xs.Pairwise (fun x y => x ≤ y)) : xs = srt ys := by
  refine List.Perm.eq_of_pairwise (le := fun x y : Int => x ≤ y) (fun a b _ _ h1 h2 => by omega) hs (srt_sorted ys) (hp.trans (srt_perm ys).symm)

theorem map_of_cells {xs : List Value} {zs : List Int} (hl : xs.length = zs.length) (hx : ∀ j, j < zs.length → xs[j]? = some (.int .i64 (nth zs j))) : xs = zs.map (Value.int .i64) := by
  apply List.ext_getElem?
  intro j
  by_cases hj : j < zs.length
  · rw [hx j hj]; simp [nth, hj]
  · rw [List.getElem?_eq_none (by omega), List.getElem?_eq_none (by simp; omega)]

end Go.Proofs.Ytlpomplldgmkmba
