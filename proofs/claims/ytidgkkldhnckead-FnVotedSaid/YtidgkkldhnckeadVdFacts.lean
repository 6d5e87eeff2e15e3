/-
  Three lanes, one of which lies, in plain numbers: what is told in each round, and when the liar is put out. No program here.
-/
import Derived.Test.YtidgkkldhnckeadVotePure
import Derived.Test.YtidgkkldhnckeadVsLoop
namespace Go.Proofs.Ytidgkkldhnckead
open Go

/-- Three values: the liar's, the next lane's, the one's behind it. -/
def vl3 {α : Type} (L : Nat) (u v w : α) : List α := if L = 0 then [u, v, w] else if L = 1 then [w, u, v] else [v, w, u]
theorem vl3_len {α : Type} (L : Nat) (u v w : α) : (vl3 L u v w).length = 3 := by unfold vl3; split <;> (try split) <;> rfl
theorem three_of {L : Nat} (h : L < 3) : L = 0 ∨ L = 1 ∨ L = 2 := by omega
theorem in_y {x a b : Int} (h : a ≤ x ∧ x ≤ b) : inB x a b = true := by simpa [inB] using h
theorem in_n {x a b : Int} (h : ¬ (a ≤ x ∧ x ≤ b)) : inB x a b = false := by simp only [inB, decide_eq_false_iff_not]; exact h
theorem all_y {zs : List Int} {a b : Int} (h : ∀ x ∈ zs, a ≤ x ∧ x ≤ b) : allB zs a b = true := by
  simp only [allB, decide_eq_true_eq]
  intro i hi
  refine in_y (h _ ?_)
  unfold nth
  rw [List.getElem?_eq_getElem hi]
  exact List.getElem_mem hi
theorem vl3_mem {α : Type} {L : Nat} {u v w x : α} (h : x ∈ vl3 L u v w) : x = u ∨ x = v ∨ x = w := by
  unfold vl3 at h
  split at h
  · simpa using h
  · split at h
    · simp at h; rcases h with h | h | h <;> simp [h]
    · simp at h; rcases h with h | h | h <;> simp [h]
theorem vd_ok {L : Nat} {p q r : Bool} {h u v w : Int} (hh : 1 ≤ h ∧ h ≤ 5) (hu : 0 ≤ u ∧ u ≤ h) (hv : 0 ≤ v ∧ v ≤ h) (hw : 0 ≤ w ∧ w ≤ h) : voOk 10 h (vl3 L p q r) (vl3 L u v w) = true := by
  unfold voOk
  rw [vl3_len, vl3_len, in_y (show (0 : Int) ≤ 10 ∧ (10 : Int) ≤ 1000 by omega), in_y (show 1 ≤ h ∧ h ≤ 20 by omega), in_y (show (1 : Int) ≤ ((3 : Nat) : Int) ∧ ((3 : Nat) : Int) ≤ 5 by omega), all_y (fun x hx => by rcases vl3_mem hx with e | e | e <;> rw [e] <;> assumption)]
  rfl
theorem vd_seen {L : Nat} {p q r : Bool} {h u v w a b c : Int} (hh : 1 ≤ h ∧ h ≤ 5) (hu : 0 ≤ u ∧ u ≤ h) (hv : 0 ≤ v ∧ v ≤ h) (hw : 0 ≤ w ∧ w ≤ h) (ha : -5000 ≤ a ∧ a ≤ 5000) (hb : -5000 ≤ b ∧ b ≤ 5000) (hc : -5000 ≤ c ∧ c ≤ 5000) : seenB 10 h (vl3 L p q r) (vl3 L u v w) (vl3 L a b c) = true := by
  refine seenB_yes (vd_ok hh hu hv hw) (by rw [vl3_len, vl3_len]) (all_y (fun x hx => ?_))
  rcases vl3_mem hx with e | e | e <;> omega
/-- What is heard of three lanes. -/
theorem vd_three {L : Nat} (hL : L < 3) (a b c : Int) : heardTo (vl3 L false false false) (vl3 L a b c) (vl3 L a b c).length = vl3 L a b c := by
  rcases three_of hL with rfl | rfl | rfl <;> simp [vl3, heardTo, elAt, nth]
theorem vd_two {L : Nat} (hL : L < 3) (a b c : Int) : (heardTo (vl3 L true false false) (vl3 L a b c) (vl3 L a b c).length).Perm [b, c] := by
  rcases three_of hL with rfl | rfl | rfl
  · simp [vl3, heardTo, elAt, nth]
  · simp [vl3, heardTo, elAt, nth]; exact List.Perm.swap _ _ _
  · simp [vl3, heardTo, elAt, nth]
theorem vl3_perm {L : Nat} (hL : L < 3) (a b c : Int) : (vl3 L a b c).Perm [a, b, c] := by
  rcases three_of hL with rfl | rfl | rfl
  · simp [vl3]
  · have h1 : ([c, a, b] : List Int).Perm [a, c, b] := List.Perm.swap _ _ _
    have h2 : ([a, c, b] : List Int).Perm [a, b, c] := List.Perm.cons _ (List.Perm.swap _ _ _)
    simpa [vl3] using h1.trans h2
  · have h1 : ([b, c, a] : List Int).Perm [b, a, c] := List.Perm.cons _ (List.Perm.swap _ _ _)
    have h2 : ([b, a, c] : List Int).Perm [a, b, c] := List.Perm.swap _ _ _
    simpa [vl3] using h1.trans h2
theorem sorted3 {a b c : Int} (h1 : a ≤ b) (h2 : b ≤ c) : ([a, b, c] : List Int).Pairwise (fun x y => x ≤ y) := by
  simp; omega
/-- The middle of what three lanes say. -/
def vdM (x p z : Int) : Int := if x < z then x + p else x
theorem vd_heard {L : Nat} (hL : L < 3) {x p z : Int} (hp : 0 ≤ p ∧ p ≤ 5) (hz : x + 100 ≤ z ∨ z ≤ x - 100) : (heardS (vl3 L false false false) (vl3 L z (x + p) x)).length = 3 ∧ nth (heardS (vl3 L false false false) (vl3 L z (x + p) x)) 1 = vdM x p z := by
  have e : heardS (vl3 L false false false) (vl3 L z (x + p) x) = if x < z then [x, x + p, z] else [z, x, x + p] := by
    unfold heardS
    rw [vd_three hL]
    by_cases h : x < z
    · rw [if_pos h]
      refine (srt_same ?_ (sorted3 (by omega) (by omega))).symm
      have h1 : ([x, x + p, z] : List Int).Perm [z, x + p, x] := by have := List.reverse_perm [z, x + p, x]; simpa using this
      exact h1.trans (vl3_perm hL _ _ _).symm
    · rw [if_neg h]
      refine (srt_same ?_ (sorted3 (by omega) (by omega))).symm
      have h1 : ([z, x, x + p] : List Int).Perm [z, x + p, x] := List.Perm.cons _ (List.Perm.swap _ _ _)
      exact h1.trans (vl3_perm hL _ _ _).symm
  rw [e]
  unfold vdM
  by_cases h : x < z <;> simp [h, nth]
theorem vd_pair {L : Nat} (hL : L < 3) (a : Int) {b c : Int} (h : c ≤ b) : heardS (vl3 L true false false) (vl3 L a b c) = [c, b] := by
  unfold heardS
  refine (srt_same ?_ (by simp; exact h)).symm
  exact (List.Perm.swap b c []).trans (vd_two hL a b c).symm
theorem avg_same (x : Int) : (x + x) / 2 = x := by omega
/-- One round in which the liar has been odd r times. -/
structure VdRound (L : Nat) (h r x p z : Int) : Prop where
  code : votC 10 h (vl3 L false false false) (vl3 L r 0 0) (vl3 L z (x + p) x) = 3
  val : votX 10 h (vl3 L false false false) (vl3 L r 0 0) (vl3 L z (x + p) x) = vdM x p z
  out : votOut 10 h (vl3 L false false false) (vl3 L r 0 0) (vl3 L z (x + p) x) = vl3 L (r + 1 == h) false false
  odd : votOdd 10 h (vl3 L false false false) (vl3 L r 0 0) (vl3 L z (x + p) x) = vl3 L (r + 1) 0 0
theorem vd_round {L : Nat} (hL : L < 3) {h r x p z : Int} (hh : 1 ≤ h ∧ h ≤ 5) (hr : 0 ≤ r ∧ r < h) (hx : -200 ≤ x ∧ x ≤ 200) (hp : 0 ≤ p ∧ p ≤ 5) (hz : (x + 100 ≤ z ∧ z ≤ x + 400) ∨ (x - 400 ≤ z ∧ z ≤ x - 100)) : VdRound L h r x p z := by
  have hs : seenB 10 h (vl3 L false false false) (vl3 L r 0 0) (vl3 L z (x + p) x) = true := vd_seen hh (by omega) (by omega) (by omega) (by omega) (by omega) (by omega)
  have hd := vd_heard hL hp (x := x) (z := z) (by omega)
  have hc : valC (heardS (vl3 L false false false) (vl3 L z (x + p) x)) = 3 := by unfold valC; rw [hd.1]; rfl
  have hv : valX (heardS (vl3 L false false false) (vl3 L z (x + p) x)) = vdM x p z := by
    unfold valX
    rw [if_neg (by omega), hd.1]
    show (nth _ 1 + nth _ 1) / 2 = _
    rw [hd.2, avg_same]
  have hm : votMid 10 h (vl3 L false false false) (vl3 L r 0 0) (vl3 L z (x + p) x) = true := by unfold votMid; rw [hs, hc]; rfl
  have f1 : inB z (vdM x p z - 10) (vdM x p z + 10) = false := in_n (by unfold vdM; split <;> omega)
  have f2 : inB (x + p) (vdM x p z - 10) (vdM x p z + 10) = true := in_y (by unfold vdM; split <;> omega)
  have f3 : inB x (vdM x p z - 10) (vdM x p z + 10) = true := in_y (by unfold vdM; split <;> omega)
  have mn : min (r + 1) h = r + 1 := by omega
  refine ⟨?_, ?_, ?_, ?_⟩
  · unfold votC; rw [if_pos hs, hc]
  · unfold votX; rw [if_pos hs, hv]
  · unfold votOut
    rw [if_pos hm, hv]
    rcases three_of hL with rfl | rfl | rfl <;> simp [vl3, fiveJO, jdO, laneO, elAt, nth, f1, f2, f3, mn]
  · unfold votOdd
    rw [if_pos hm, hv]
    rcases three_of hL with rfl | rfl | rfl <;> simp [vl3, fiveJD, jdD, laneO, elAt, nth, f1, f2, f3, mn]
/-- When the liar is out. -/
structure VdEnd (L : Nat) (h x : Int) : Prop where
  code : votC 10 h (vl3 L true false false) (vl3 L h 0 0) (vl3 L (x + 1000) x x) = 2
  val : votX 10 h (vl3 L true false false) (vl3 L h 0 0) (vl3 L (x + 1000) x x) = x
  out : votOut 10 h (vl3 L true false false) (vl3 L h 0 0) (vl3 L (x + 1000) x x) = vl3 L true false false
  two : twoB 10 h (vl3 L true false false) (vl3 L h 0 0) (vl3 L (x + 1000) (x + 11) x) = true
  many : vsMany [[x, x, x]] = 1
  vals : vsV 10 h (vl3 L true false false) (vl3 L h 0 0) [[x, x, x]] 1 = [x]
theorem vd_end {L : Nat} (hL : L < 3) {h x : Int} (hh : 1 ≤ h ∧ h ≤ 5) (hx : -200 ≤ x ∧ x ≤ 200) : VdEnd L h x := by
  have hs : seenB 10 h (vl3 L true false false) (vl3 L h 0 0) (vl3 L (x + 1000) x x) = true := vd_seen hh (by omega) (by omega) (by omega) (by omega) (by omega) (by omega)
  have hs2 : seenB 10 h (vl3 L true false false) (vl3 L h 0 0) (vl3 L (x + 1000) (x + 11) x) = true := vd_seen hh (by omega) (by omega) (by omega) (by omega) (by omega) (by omega)
  have hs3 : seenB 10 h (vl3 L true false false) (vl3 L h 0 0) (vl3 L x x x) = true := vd_seen hh (by omega) (by omega) (by omega) (by omega) (by omega) (by omega)
  have h1 := vd_pair hL (x + 1000) (show x ≤ x by omega)
  have h2 := vd_pair hL (x + 1000) (show x ≤ x + 11 by omega)
  have h3 := vd_pair hL x (show x ≤ x by omega)
  have v1 : valX [x, x] = x := by unfold valX; rw [if_neg (by simp)]; simp [nth]; omega
  have xx : vl3 L x x x = [x, x, x] := by unfold vl3; split <;> (try split) <;> rfl
  refine ⟨?_, ?_, ?_, ?_, rfl, ?_⟩
  · unfold votC; rw [if_pos hs, h1]; rfl
  · unfold votX; rw [if_pos hs, h1, v1]
  · unfold votOut votMid
    rw [hs, h1]; rfl
  · unfold twoB
    rw [hs2, h2]
    simp [nth]
    omega
  · unfold vsV vsX
    simp only [List.range_one, List.map_cons, List.map_nil, vsAt]
    show [votX 10 h (vl3 L true false false) (vl3 L h 0 0) [x, x, x]] = [x]
    unfold votX
    rw [← xx, if_pos hs3, h3, v1]

end Go.Proofs.Ytidgkkldhnckead
