/-
  Ties that are to be closed, in plain words: a tie closed, whether the first rank is fed, the first list that suffices. No program here.
-/
import Derived.Test.YtfahhjgpgccdhacShFacts
namespace Go.Proofs.Ytfahhjgpgccdhac
open Go.RowKit

/-- The ties with one closed. -/
def shutT (ts : List Ti) (i : Nat) : List Ti := ts.set i ⟨(elAt ts i).a0, (elAt ts i).a1, true⟩
theorem shutT_len (ts : List Ti) (i : Nat) : (shutT ts i).length = ts.length := by simp [shutT]
theorem shutT_at {ts : List Ti} {i : Nat} (hi : i < ts.length) (j : Nat) : elAt (shutT ts i) j = if j = i then ⟨(elAt ts i).a0, (elAt ts i).a1, true⟩ else elAt ts j := elAt_set ts i j _ hi
theorem netB_shut {n : Int} {ss : List Sr} {ts : List Ti} {us : List Us} (h : netB n ss ts us = true) {i : Nat} (hi : i < ts.length) : netB n ss (shutT ts i) us = true := by
  obtain ⟨h0, h1, h2, h3⟩ := netB_parts h
  refine netB_yes h0 h1 ?_ h3
  simp only [tsB, Bool.and_eq_true, decide_eq_true_eq] at h2
  refine tsB_yes (by rw [shutT_len]; exact h2.1) fun j hj => ?_
  rw [shutT_len] at hj
  rw [shutT_at hi]
  split
  · have := everyB_at h2.2 hi
    simpa [tiB] using this
  · exact everyB_at h2.2 hj
/-- Whether none of those at these places is of the first rank. -/
def rankB (us : List Us) (zs : List Int) : Bool := decide (∀ i, i < zs.length → (elAt us (nth zs i).toNat).a2 ≠ 0)
theorem rankB_yes {us : List Us} {zs : List Int} (h : ∀ i, i < zs.length → (elAt us (nth zs i).toNat).a2 ≠ 0) : rankB us zs = true := decide_eq_true h
theorem rankB_no {us : List Us} {zs : List Int} {i : Nat} (hi : i < zs.length) (h : (elAt us (nth zs i).toNat).a2 = 0) : rankB us zs = false := by
  refine decide_eq_false fun k => k i hi h
theorem rankB_at {us : List Us} {zs : List Int} (h : rankB us zs = true) {i : Nat} (hi : i < zs.length) : (elAt us (nth zs i).toNat).a2 ≠ 0 := of_decide_eq_true h i hi
/-- Whether no use of the first rank is shed. -/
noncomputable def wellB (N : Nat) (ss : List Sr) (us : List Us) (ts : List Ti) : Bool := rankB us (shR N ss ts us)
theorem unK_pos {F : List Bool} {n : Nat} : ∀ x ∈ unK F n, 0 ≤ x := by
  induction n with
  | zero => simp [unK]
  | succ k ih =>
    intro x hx
    rw [unK] at hx
    split at hx
    · exact ih x hx
    · rcases List.mem_append.1 hx with h | h
      · exact ih x h
      · simp at h; omega
theorem shR_lt {N : Nat} {ss : List Sr} {ts : List Ti} {us : List Us} {i : Nat} (hi : i < (shR N ss ts us).length) : 0 ≤ nth (shR N ss ts us) i ∧ nth (shR N ss ts us) i < us.length := by
  have e : nth (shR N ss ts us) i = (shR N ss ts us)[i] := by simp [nth, List.getElem?_eq_getElem hi]
  rw [e]
  have h1 := unK_pos (F := (outr (isleR N ts) us (shS N ss ts us) 10).F) _ (List.getElem_mem hi)
  have h2 := unK_lt _ _ _ (List.getElem_mem hi)
  exact ⟨h1, h2⟩

/-- The first of the open ties from a place on that leads on, and what it leads to. -/
def clIn (g : Nat → Option (List Int)) (ts : List Ti) : Nat → Nat → Option (List Int)
  | 0, _ => none
  | f + 1, i => if (elAt ts i).a2 = true then clIn g ts f (i + 1) else match g i with
    | some l => some ((i : Int) :: l)
    | none => clIn g ts f (i + 1)
/-- The first list of just so many ties that suffices. -/
def clR (well : List Ti → Bool) : Nat → Nat → List Ti → Option (List Int)
  | 0, _, ts => if well ts = true then some [] else none
  | m + 1, i, ts => clIn (fun j => clR well m (j + 1) (shutT ts j)) ts (ts.length - i) i
theorem clIn_shut {g : Nat → Option (List Int)} {ts : List Ti} {i : Nat} (hi : i < ts.length) (h : (elAt ts i).a2 = true) : clIn g ts (ts.length - i) i = clIn g ts (ts.length - (i + 1)) (i + 1) := by
  rw [show ts.length - i = (ts.length - (i + 1)) + 1 by omega, clIn, if_pos h]
theorem clIn_on {g : Nat → Option (List Int)} {ts : List Ti} {i : Nat} (hi : i < ts.length) (h : (elAt ts i).a2 = false) (hg : g i = none) : clIn g ts (ts.length - i) i = clIn g ts (ts.length - (i + 1)) (i + 1) := by
  rw [show ts.length - i = (ts.length - (i + 1)) + 1 by omega, clIn, if_neg (by rw [h]; decide), hg]
theorem clIn_at {g : Nat → Option (List Int)} {ts : List Ti} {i : Nat} {l : List Int} (hi : i < ts.length) (h : (elAt ts i).a2 = false) (hg : g i = some l) : clIn g ts (ts.length - i) i = some ((i : Int) :: l) := by
  rw [show ts.length - i = (ts.length - (i + 1)) + 1 by omega, clIn, if_neg (by rw [h]; decide), hg]
theorem clIn_end {g : Nat → Option (List Int)} {ts : List Ti} {i : Nat} (hi : ts.length ≤ i) : clIn g ts (ts.length - i) i = none := by
  rw [show ts.length - i = 0 by omega, clIn]
theorem clR_zero {well : List Ti → Bool} {i : Nat} {ts : List Ti} : (clR well 0 i ts).getD [] = [] ∧ (clR well 0 i ts).isSome = well ts := by
  rw [clR]; cases well ts <;> simp
/-- From so many on. -/
def clUp (f : Nat → Option (List Int)) : Nat → Nat → Option (List Int)
  | 0, _ => none
  | n + 1, i => match f i with
    | some l => some l
    | none => clUp f n (i + 1)
theorem clUp_at {f : Nat → Option (List Int)} {n i : Nat} {l : List Int} (hi : i < n) (h : f i = some l) : clUp f (n - i) i = some l := by
  rw [show n - i = (n - (i + 1)) + 1 by omega, clUp, h]
theorem clUp_on {f : Nat → Option (List Int)} {n i : Nat} (hi : i < n) (h : f i = none) : clUp f (n - i) i = clUp f (n - (i + 1)) (i + 1) := by
  rw [show n - i = (n - (i + 1)) + 1 by omega, clUp, h]
theorem clUp_end {f : Nat → Option (List Int)} {n i : Nat} (hi : n ≤ i) : clUp f (n - i) i = none := by
  rw [show n - i = 0 by omega, clUp]
/-- What is found with at most so many. -/
noncomputable def clT (N : Nat) (ss : List Sr) (ts : List Ti) (us : List Us) (most : Nat) : Option (List Int) := clUp (fun m => clR (wellB N ss us) m 0 ts) (most + 1) 0
def clOk (n : Int) (ss : List Sr) (ts : List Ti) (us : List Us) (most : Int) : Bool := netB n ss ts us && inB most 0 3
/-- What is told. -/
noncomputable def clF (n : Int) (ss : List Sr) (ts : List Ti) (us : List Us) (most : Int) : Option (List Int) := if clOk n ss ts us most = true then clT n.toNat ss ts us most.toNat else none
noncomputable def clL (n : Int) (ss : List Sr) (ts : List Ti) (us : List Us) (most : Int) : List Int := (clF n ss ts us most).getD []
noncomputable def clB (n : Int) (ss : List Sr) (ts : List Ti) (us : List Us) (most : Int) : Bool := (clF n ss ts us most).isSome
theorem clIn_len {g : Nat → Option (List Int)} {ts : List Ti} {m : Nat} (hg : ∀ i l, g i = some l → l.length = m) : ∀ f i l, clIn g ts f i = some l → l.length = m + 1 := by
  intro f
  induction f with
  | zero => intro i l h; simp [clIn] at h
  | succ k ih =>
    intro i l h
    rw [clIn] at h
    split at h
    · exact ih _ _ h
    · split at h
      · rename_i l' e
        simp only [Option.some.injEq] at h
        rw [← h]; simp [hg _ _ e]
      · exact ih _ _ h
theorem clR_len {well : List Ti → Bool} : ∀ m i ts l, clR well m i ts = some l → l.length = m := by
  intro m
  induction m with
  | zero => intro i ts l h; rw [clR] at h; split at h <;> simp_all
  | succ k ih => intro i ts l h; rw [clR] at h; exact clIn_len (fun j l' e => ih _ _ _ e) _ _ _ h
theorem clUp_some {f : Nat → Option (List Int)} : ∀ n i l, clUp f n i = some l → ∃ j, i ≤ j ∧ j < i + n ∧ f j = some l := by
  intro n
  induction n with
  | zero => intro i l h; simp [clUp] at h
  | succ k ih =>
    intro i l h
    rw [clUp] at h
    split at h
    · rename_i e; rw [h] at e; exact ⟨i, by omega, by omega, e⟩
    · obtain ⟨j, h1, h2, h3⟩ := ih _ _ h
      exact ⟨j, by omega, by omega, h3⟩
theorem clL_small {n : Int} {ss : List Sr} {ts : List Ti} {us : List Us} {most : Int} (_ : netB n ss ts us = true → True) : (clL n ss ts us most).length ≤ 1048576 := by
  unfold clL clF
  split
  · rename_i h
    simp only [clOk, Bool.and_eq_true] at h
    have hm := in_facts h.2
    cases e : clT n.toNat ss ts us most.toNat with
    | none => simp
    | some l =>
      obtain ⟨j, h1, h2, h3⟩ := clUp_some _ _ _ e
      have := clR_len _ _ _ _ h3
      simp only [Option.getD_some]; omega
  · simp
theorem clF_no {n : Int} {ss : List Sr} {ts : List Ti} {us : List Us} {most : Int} (h : clOk n ss ts us most = false) : clF n ss ts us most = none := by simp [clF, h]
theorem clF_yes {n : Int} {ss : List Sr} {ts : List Ti} {us : List Us} {most : Int} (h : clOk n ss ts us most = true) : clF n ss ts us most = clT n.toNat ss ts us most.toNat := by simp [clF, h]
theorem OwnE.some_ {α : Type} [Inhabited α] {K : Nat} {cells : α → Nat → Value} {w : World} {base : Nat} {T : TypeId} {v : Value} {ps : List α} (h : OwnE K cells w base T v ps) (hn : v = .slice none 0 0 → False) : ∃ g c, v = .slice (some ⟨g, 0, none⟩) ps.length c ∧ base ≤ g ∧ g < w.heap.size := by
  rcases h.form with ⟨e, _⟩ | ⟨g, c, e, h1, h2, _, _⟩
  · exact (hn e).elim
  · exact ⟨g, c, e, h1, h2⟩
theorem OwnI.some_ {w : World} {base : Nat} {v : Value} {zs : List Int} (h : OwnI w base v zs) (hn : v = .slice none 0 0 → False) : ∃ g c, v = .slice (some ⟨g, 0, none⟩) zs.length c ∧ base ≤ g ∧ g < w.heap.size := by
  rcases h.form with ⟨e, _⟩ | ⟨g, c, e, h1, h2, _, _⟩
  · exact (hn e).elim
  · exact ⟨g, c, e, h1, h2⟩

end Go.Proofs.Ytfahhjgpgccdhac
