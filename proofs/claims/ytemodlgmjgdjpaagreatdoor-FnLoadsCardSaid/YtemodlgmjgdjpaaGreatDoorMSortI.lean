/-
  The library's sort of whole numbers, over a list that a call has made: the same slice owns the sorted list. No condition but the length's bound. The sorted list, in plain numbers.
  A number in a new slice; one more put in at its place. No condition but those named.
-/
import Derived.Test.YtemodlgmjgdjpaaGreatDoorMSortLayI
import Derived.Test.YtemodlgmjgdjpaaGreatDoorMCur
import Derived.Sort.OwnSortedInts
import Derived.Test.YtemodlgmjgdjpaaGreatDoorMKeeps

namespace Go.Proofs.YtemodlgmjgdjpaaGreatDoor
open Go.RowKit Go.Sort

/-- The sorted list. -/
def srt (zs : List Int) : List Int := zs.mergeSort fun x y => decide (x ≤ y)
theorem srt_perm (zs : List Int) : (srt zs).Perm zs := List.mergeSort_perm _ _
theorem srt_len (zs : List Int) : (srt zs).length = zs.length := List.length_mergeSort _
theorem nth_in {zs : List Int} {i : Nat} (h : i < zs.length) : nth zs i ∈ zs := by unfold nth; rw [List.getElem?_eq_getElem h]; exact List.getElem_mem h
theorem nth_out {zs : List Int} {i : Nat} (h : zs.length ≤ i) : nth zs i = 0 := by unfold nth; rw [List.getElem?_eq_none h]; rfl
theorem nth_of_mem {zs : List Int} {x : Int} (h : x ∈ zs) : ∃ i, i < zs.length ∧ nth zs i = x := by
  obtain ⟨i, hi, e⟩ := List.getElem_of_mem h
  exact ⟨i, hi, by unfold nth; rw [List.getElem?_eq_getElem hi]; exact e⟩
theorem srt_all {zs : List Int} {P : Int → Prop} (h : ∀ i, i < zs.length → P (nth zs i)) : ∀ i, i < (srt zs).length → P (nth (srt zs) i) := by
  intro i hi
  have hm := (srt_perm zs).mem_iff.1 (nth_in hi)
  obtain ⟨j, hj, e⟩ := nth_of_mem hm
  rw [← e]; exact h j hj
theorem srt_fit {zs : List Int} (h : ∀ i : Nat, -9223372036854775808 ≤ nth zs i ∧ nth zs i ≤ 9223372036854775807) (i : Nat) : -9223372036854775808 ≤ nth (srt zs) i ∧ nth (srt zs) i ≤ 9223372036854775807 := by
  by_cases hi : i < (srt zs).length
  · exact srt_all (P := fun x => -9223372036854775808 ≤ x ∧ x ≤ 9223372036854775807) (fun j _ => h j) i hi
  · rw [nth_out (by omega)]; omega
theorem srt_sorted (zs : List Int) : (srt zs).Pairwise (fun x y => x ≤ y) := by
  have h := List.pairwise_mergeSort (le := fun x y : Int => decide (x ≤ y)) (by intro a b c h1 h2; simp only [decide_eq_true_eq] at h1 h2 ⊢; omega) (by intro a b; simp only [Bool.or_eq_true, decide_eq_true_eq]; omega) zs
  exact h.imp (by intro a b hab; simpa using hab)
theorem srt_same {xs ys : List Int} (hp : xs.Perm ys) (hs : xs.Pairwise (fun x y => x ≤ y)) : xs = srt ys := by
  refine List.Perm.eq_of_pairwise (le := fun x y : Int => x ≤ y) (fun a b _ _ h1 h2 => by omega) hs (srt_sorted ys) (hp.trans (srt_perm ys).symm)

end Go.Proofs.YtemodlgmjgdjpaaGreatDoor

namespace Go.Proofs.YtemodlgmjgdjpaaGreatDoor
open Go.RowKit

/-- One number in a new slice. -/
theorem ownI_one {w : World} {base : Nat} (x : Int) (h : base ≤ w.heap.size) (hf : -9223372036854775808 ≤ x ∧ x ≤ 9223372036854775807) : OwnI (w.alloc (Obj.cells #[.int .i64 x] 3)) base (.slice (some ⟨w.heap.size, 0, none⟩) 1 1) [x] := by
  refine ownI_of_map ?_ (fun i => ?_)
  · exact World.ownsRow_lit w _ 1 h (by unfold maxLen; omega) rfl
  · rcases Nat.eq_zero_or_pos i with rfl | hi
    · exact hf
    · rw [nth_out (by simp; omega)]; omega
/-- One more, put in at its place, keeps the order. -/
theorem ins_srt {H hs : List Int} {x : Int} {K : Nat} (e : H = srt hs) (hK : K ≤ H.length) (h1 : ∀ j, j < K → nth H j < x) (h2 : K < H.length → x ≤ nth H K) : H.take K ++ ([x] ++ H.drop K) = srt (hs ++ [x]) := by
  have hp : (H.take K ++ ([x] ++ H.drop K)).Perm (hs ++ [x]) := by
    have p1 : (H.take K ++ ([x] ++ H.drop K)).Perm ([x] ++ (H.take K ++ H.drop K)) := by
      simpa using (List.perm_middle (a := x) (l₁ := H.take K) (l₂ := H.drop K))
    rw [List.take_append_drop] at p1
    have p2 : H.Perm hs := by rw [e]; exact srt_perm hs
    exact p1.trans ((List.perm_append_comm).trans (p2.append_right [x]))
  have hS : H.Pairwise (fun x y => x ≤ y) := by rw [e]; exact srt_sorted hs
  refine srt_same hp ?_
  have hS2 := hS
  rw [← List.take_append_drop K H, List.pairwise_append] at hS2
  obtain ⟨s1, s2, s3⟩ := hS2
  have lo : ∀ y ∈ H.take K, y ≤ x := fun y hy => by
    obtain ⟨j, hj, rfl⟩ := List.getElem_of_mem hy
    have hj' : j < K := by simp at hj; omega
    have := h1 j hj'
    have e2 : (H.take K)[j] = nth H j := by simp [nth, show j < H.length by omega]
    omega
  have hi : ∀ y ∈ H.drop K, x ≤ y := fun y hy => by
    have hKl : K < H.length := by
      rcases Nat.lt_or_ge K H.length with h | h
      · exact h
      · rw [List.drop_eq_nil_of_le h] at hy; cases hy
    have hd : H.drop K = nth H K :: H.drop (K + 1) := by
      rw [List.drop_eq_getElem_cons hKl]; simp [nth, hKl]
    rw [hd] at hy s2
    rcases List.mem_cons.1 hy with rfl | hy
    · exact h2 hKl
    · have := (List.pairwise_cons.1 s2).1 y hy
      have := h2 hKl
      omega
  rw [List.pairwise_append]
  refine ⟨s1, ?_, fun a ha b hb => ?_⟩
  · rw [List.singleton_append, List.pairwise_cons]; exact ⟨hi, s2⟩
  · rw [List.singleton_append] at hb
    rcases List.mem_cons.1 hb with rfl | hb
    · exact lo a ha
    · exact s3 a ha b hb

end Go.Proofs.YtemodlgmjgdjpaaGreatDoor
