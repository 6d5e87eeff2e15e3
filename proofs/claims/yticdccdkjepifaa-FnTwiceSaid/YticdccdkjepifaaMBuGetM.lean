/-
  What the model's Get16 answers, at every list of bytes. Nothing that was there is written.
  Plain facts on frames: a word comes back from its frame; with one byte changed, or the last one gone, a frame is never read. No program here.
-/
import Derived.Test.YticdccdkjepifaaBuWell

namespace Go.Proofs.Yticdccdkjepifaa
open Go.RowKit

theorem gtD_len (zs : List Int) (hz : 32 < elAt zs 2 → gtC zs ≠ 0) (hq : gtC zs = 0 → (zs.length : Int) = elAt zs 2 + 4) : (gtD zs).length ≤ 32 := by
  unfold gtD
  split
  · rename_i h
    have := hq h
    have h2 : ¬ 32 < elAt zs 2 := fun k => hz k h
    simp; omega
  · simp
theorem gt_facts {zs : List Int} (h : gtC zs = 0) : ¬ zs.length < 4 ∧ ¬ 32 < elAt zs 2 ∧ (zs.length : Int) = elAt zs 2 + 4 ∧ ¬ elAt zs 0 = 0 ∧ elAt zs (zs.length - 1) = smB (zs.take (zs.length - 1)) := by
  unfold gtC at h
  split at h
  · cases h
  split at h
  · cases h
  split at h
  · cases h
  split at h
  · cases h
  split at h
  · cases h
  split at h
  · cases h
  · rename_i a1 a2 a3 a4 a5 a6
    exact ⟨a1, a2, by omega, a5, Decidable.not_not.1 a6⟩
theorem gtD_small (zs : List Int) : (gtD zs).length ≤ 32 := gtD_len zs (fun k h => (gt_facts h).2.1 k) (fun h => (gt_facts h).2.2.1)

end Go.Proofs.Yticdccdkjepifaa

namespace Go.Proofs.Yticdccdkjepifaa
open Go

theorem smK_same {xs ys : List Int} : ∀ k, (∀ i, i < k → elAt xs i = elAt ys i) → smK xs k = smK ys k
  | 0, _ => rfl
  | k + 1, h => by
    rw [smK, smK, smK_same k (fun i hi => h i (by omega)), h k (by omega)]
theorem smB_take {xs : List Int} {k : Nat} (hk : k ≤ xs.length) : smB (xs.take k) = smK xs k := by
  rw [smB, List.length_take, Nat.min_eq_left hk]
  exact smK_same k (fun i hi => elAt_takeB xs k i hi)
theorem smB_app (xs ys : List Int) : smB xs = smK (xs ++ ys) xs.length := by
  rw [smB]
  exact smK_same _ (fun i hi => by simp [elAt, List.getElem?_append_left hi])
/-- Sums that differ go on to differ. -/
theorem smK_off {xs ys : List Int} {k : Nat} (hk : elAt xs k ≠ elAt ys k) (h0 : 0 ≤ elAt xs k ∧ elAt xs k ≤ 255) (h1 : 0 ≤ elAt ys k ∧ elAt ys k ≤ 255) (hs : ∀ i, i ≠ k → elAt xs i = elAt ys i) : ∀ m, smK xs (k + 1 + m) ≠ smK ys (k + 1 + m)
  | 0 => by
    have e : smK xs k = smK ys k := smK_same k (fun i hi => hs i (by omega))
    show smK xs (k + 1) ≠ smK ys (k + 1)
    rw [smK, smK, e]
    omega
  | m + 1 => by
    have ih := smK_off hk h0 h1 hs m
    have b1 := smK_bd xs (k + 1 + m)
    have b2 := smK_bd ys (k + 1 + m)
    show smK xs (k + 1 + m + 1) ≠ smK ys (k + 1 + m + 1)
    rw [smK, smK, hs (k + 1 + m) (by omega)]
    generalize smK xs (k + 1 + m) = x at *
    generalize smK ys (k + 1 + m) = y at *
    generalize elAt ys (k + 1 + m) = z at *
    omega
/-- The frame of a right word. -/
def frL (l s : Int) (ds : List Int) : List Int := ptH l s ds ++ [smB (ptH l s ds)]
theorem frL_is {l s : Int} {ds : List Int} (h : wdB l s ds.length = true) : ptL l s ds = frL l s ds := by rw [ptL, if_pos h]; rfl
theorem frL_len (l s : Int) (ds : List Int) : (frL l s ds).length = ds.length + 4 := by simp [frL, ptH]
theorem frL_0 (l s : Int) (ds : List Int) : elAt (frL l s ds) 0 = l ∧ elAt (frL l s ds) 1 = s ∧ elAt (frL l s ds) 2 = (ds.length : Int) := by simp [frL, ptH, elAt]
theorem frL_last (l s : Int) (ds : List Int) : elAt (frL l s ds) (ds.length + 3) = smB (ptH l s ds) := by
  have e : (ptH l s ds).length = ds.length + 3 := by simp [ptH]
  have := (elAt_app (ptH l s ds) (smB (ptH l s ds))).2
  rw [e] at this
  exact this
theorem frL_sum (l s : Int) (ds : List Int) : smB (ptH l s ds) = smK (frL l s ds) (ds.length + 3) := by
  have e : (ptH l s ds).length = ds.length + 3 := by simp [ptH]
  have := smB_app (ptH l s ds) [smB (ptH l s ds)]
  rw [e] at this
  exact this
theorem frL_dat (l s : Int) (ds : List Int) : ((frL l s ds).drop 3).take ((frL l s ds).length - 4) = ds := by
  rw [frL_len]
  simp [frL, ptH]
theorem frL_byte {l s : Int} {ds : List Int} (h : wdB l s ds.length = true) (hd : ∀ i, i < ds.length → 0 ≤ elAt ds i ∧ elAt ds i ≤ 255) : ∀ i, i < (frL l s ds).length → 0 ≤ elAt (frL l s ds) i ∧ elAt (frL l s ds) i ≤ 255 := by
  have hw := wdB_facts h
  intro i hi
  rw [frL_len] at hi
  have h012 := frL_0 l s ds
  by_cases e0 : i = 0
  · subst e0; rw [h012.1]; omega
  by_cases e1 : i = 1
  · subst e1; rw [h012.2.1]; omega
  by_cases e2 : i = 2
  · subst e2; rw [h012.2.2]; omega
  by_cases e3 : i = ds.length + 3
  · subst e3
    rw [frL_last, frL_sum]
    exact smK_bd _ _
  · have e : elAt (frL l s ds) i = elAt ds (i - 3) := by
      obtain ⟨j, rfl⟩ : ∃ j, i = j + 3 := ⟨i - 3, by omega⟩
      have hj : j < ds.length := by omega
      simp [frL, ptH, elAt, List.getElem?_append_left hj]
    rw [e]
    exact hd _ (by omega)
theorem gt_well {zs : List Int} (h0 : ¬ zs.length < 4) (h2 : ¬ 32 < elAt zs 2) (h3 : (zs.length : Int) = elAt zs 2 + 4) (h5 : ¬ elAt zs 0 = 0) (h6 : elAt zs (zs.length - 1) = smB (zs.take (zs.length - 1))) : gtC zs = 0 := by
  unfold gtC
  rw [if_neg h0, if_neg h2, if_neg (by omega), if_neg (by omega), if_neg h5, if_neg (fun k => k h6)]
theorem fr_back {l s : Int} {ds : List Int} (h : wdB l s ds.length = true) : gtC (frL l s ds) = 0 ∧ gtL (frL l s ds) = l ∧ gtS (frL l s ds) = s ∧ gtD (frL l s ds) = ds := by
  have hw := wdB_facts h
  have h012 := frL_0 l s ds
  have hl := frL_len l s ds
  have c : gtC (frL l s ds) = 0 := by
    refine gt_well (by omega) (by rw [h012.2.2]; omega) (by rw [h012.2.2, hl]; omega) (by rw [h012.1]; omega) ?_
    rw [smB_take (by omega), hl, show ds.length + 4 - 1 = ds.length + 3 by omega, frL_last, frL_sum]
  exact ⟨c, by rw [gtL, if_pos c, h012.1], by rw [gtS, if_pos c, h012.2.1], by rw [gtD, if_pos c, frL_dat]⟩
theorem fr_hurt {l s : Int} {ds : List Int} {k : Nat} {b : Int} (h : wdB l s ds.length = true) (hd : ∀ i, i < ds.length → 0 ≤ elAt ds i ∧ elAt ds i ≤ 255) (hk : k < ds.length + 4) (hb : 0 ≤ b ∧ b ≤ 255) (hn : b ≠ elAt (frL l s ds) k) : ¬ gtC ((frL l s ds).set k b) = 0 := by
  intro c
  have hl := frL_len l s ds
  have f := gt_facts c
  rw [List.length_set, hl] at f
  have hs : ∀ i, elAt ((frL l s ds).set k b) i = if i = k then b else elAt (frL l s ds) i := fun i => elAt_set _ _ _ _ (by omega)
  have h012 := frL_0 l s ds
  have hk2 : k ≠ 2 := by
    intro e
    subst e
    have := f.2.2.1
    rw [hs, if_pos rfl] at this
    rw [h012.2.2] at hn
    omega
  have f5 := f.2.2.2.2
  rw [smB_take (by rw [List.length_set]; omega), show ds.length + 4 - 1 = ds.length + 3 by omega, hs] at f5
  by_cases e : ds.length + 3 = k
  · rw [if_pos e] at f5
    have h7 : elAt (frL l s ds) k = smK (frL l s ds) (ds.length + 3) := by rw [← e, frL_last, frL_sum]
    exact hn (f5.trans ((smK_same _ (fun i hi => by rw [hs, if_neg (by omega)])).trans h7.symm))
  · rw [if_neg e, frL_last, frL_sum] at f5
    have hby := frL_byte h hd k (by omega)
    have off := smK_off (xs := (frL l s ds).set k b) (ys := frL l s ds) (k := k) (by rw [hs, if_pos rfl]; exact hn) (by rw [hs, if_pos rfl]; exact hb) hby (fun i hi => by rw [hs, if_neg hi]) (ds.length + 3 - (k + 1))
    rw [show k + 1 + (ds.length + 3 - (k + 1)) = ds.length + 3 by omega] at off
    exact off f5.symm
theorem fr_short {l s : Int} {ds : List Int} (h : wdB l s ds.length = true) : gtC ((frL l s ds).take (ds.length + 3)) = 1 := by
  have hw := wdB_facts h
  have hl : ((frL l s ds).take (ds.length + 3)).length = ds.length + 3 := by rw [List.length_take, frL_len]; omega
  unfold gtC
  by_cases c : ds.length + 3 < 4
  · rw [if_pos (by omega)]
  · have e2 : elAt ((frL l s ds).take (ds.length + 3)) 2 = (ds.length : Int) := by rw [elAt_takeB _ _ _ (by omega)]; exact (frL_0 l s ds).2.2
    rw [if_neg (by omega), e2, if_neg (by omega), if_pos (by omega)]

end Go.Proofs.Yticdccdkjepifaa
