/-
  The program's way in plain numbers: what can be had forth, and of it what leads on, is what can be had and leads on; the nearest of it is the nearest that can be come to. No program here.
-/
import Derived.Test.YtbaocifpifbldaePgPure
namespace Go.Proofs.Ytbaocifpifbldae
open Go

theorem po_eq {a b : Po} (h0 : a.a0 = b.a0) (h1 : a.a1 = b.a1) (h2 : a.a2 = b.a2) : a = b := by
  cases a; cases b
  simp only at h0 h1 h2
  subst h0; subst h1; subst h2; rfl
theorem rcA_far (ps : List Po) (up down : Int) (k : Nat) : (rcA ps up down k).a0 = (elAt ps k).a0 := by cases k <;> rfl
theorem rcA_le (ps : List Po) (up down : Int) : ∀ k, (elAt ps k).a1 ≤ (rcA ps up down k).a1 ∧ (rcA ps up down k).a2 ≤ (elAt ps k).a2
  | 0 => ⟨Int.le_refl _, Int.le_refl _⟩
  | k + 1 => ⟨by simp only [rcA]; omega, by simp only [rcA]; omega⟩
theorem rcA_s1 (ps : List Po) (up down : Int) (k : Nat) : (rcA ps up down (k + 1)).a1 = max (elAt ps (k + 1)).a1 ((rcA ps up down k).a1 - down * ((elAt ps (k + 1)).a0 - (elAt ps k).a0)) := rfl
theorem rcA_s2 (ps : List Po) (up down : Int) (k : Nat) : (rcA ps up down (k + 1)).a2 = min (elAt ps (k + 1)).a2 ((rcA ps up down k).a2 + up * ((elAt ps (k + 1)).a0 - (elAt ps k).a0)) := rfl
theorem bkI_s1 {ps : List Po} {up down : Int} {i : Nat} (h : i + 1 < ps.length) : (bkI ps up down i).a1 = max (elAt ps i).a1 ((bkI ps up down (i + 1)).a1 - up * ((elAt ps (i + 1)).a0 - (elAt ps i).a0)) := by rw [bkI_next h]
theorem bkI_s2 {ps : List Po} {up down : Int} {i : Nat} (h : i + 1 < ps.length) : (bkI ps up down i).a2 = min (elAt ps i).a2 ((bkI ps up down (i + 1)).a2 + down * ((elAt ps (i + 1)).a0 - (elAt ps i).a0)) := by rw [bkI_next h]
theorem sl_facts {up down : Int} (h : slB up down = true) : (0 ≤ up ∧ up ≤ 1000) ∧ (0 ≤ down ∧ down ≤ 1000) := by
  have h : (inB up 0 1000 && inB down 0 1000) = true := h
  simp only [Bool.and_eq_true] at h
  exact ⟨in_facts h.1, in_facts h.2⟩
/-- What a step costs is not below 0. -/
theorem step_up {ps : List Po} {up down : Int} (q1 : poB ps = true) (q2 : slB up down = true) {i : Nat} (h : i + 1 < ps.length) : 0 ≤ up * ((elAt ps (i + 1)).a0 - (elAt ps i).a0) ∧ 0 ≤ down * ((elAt ps (i + 1)).a0 - (elAt ps i).a0) := by
  have sl := sl_facts q2
  have pa := poAt_facts ((poB_facts q1).1 (i + 1) h)
  have e : (elAt ps i).a0 < (elAt ps (i + 1)).a0 := by
    rcases pa.2.2.2 with h | h
    · omega
    · simpa using h
  exact ⟨Int.mul_nonneg (by omega) (by omega), Int.mul_nonneg (by omega) (by omega)⟩
/-- The heights that lead on, of those that can be had at the first K points. -/
def ldI (ps : List Po) (up down : Int) (K i : Nat) : Po := bkI (rcL ps up down K) up down i
theorem ld_is {ps : List Po} {up down : Int} (q1 : poB ps = true) (q2 : slB up down = true) : ∀ (m i : Nat), i + m + 1 = ps.length →
    ldI ps up down ps.length i = ⟨(elAt ps i).a0, max (rcA ps up down i).a1 (bkI ps up down i).a1, min (rcA ps up down i).a2 (bkI ps up down i).a2⟩
  | 0, i, h => by
    have hi : i = ps.length - 1 := by omega
    have e1 : ldI ps up down ps.length i = rcA ps up down i := by
      have := bkI_last (rcL ps up down ps.length) up down
      rw [rcL_len, ← hi, rcL_at (by omega)] at this
      exact this
    have e2 : bkI ps up down i = elAt ps i := by
      have := bkI_last ps up down
      rw [← hi] at this
      exact this
    have hl := rcA_le ps up down i
    rw [e1, e2]
    exact po_eq (rcA_far _ _ _ _) (by show _ = max _ _; omega) (by show _ = min _ _; omega)
  | m + 1, i, h => by
    have ih := ld_is q1 q2 m (i + 1) (by omega)
    have hlt : i + 1 < ps.length := by omega
    have e1 := bkI_next (ps := rcL ps up down ps.length) (up := up) (down := down) (i := i) (by rw [rcL_len]; exact hlt)
    rw [rcL_at (by omega), rcL_at (by omega), rcA_far, rcA_far] at e1
    have e1 : ldI ps up down ps.length i = _ := e1
    have ih : bkI (rcL ps up down ps.length) up down (i + 1) = _ := ih
    rw [ih] at e1
    rw [e1]
    have su := step_up q1 q2 hlt
    have r1 := rcA_s1 ps up down i
    have r2 := rcA_s2 ps up down i
    have b1 := bkI_s1 (up := up) (down := down) hlt
    have b2 := bkI_s2 (up := up) (down := down) hlt
    have hl := rcA_le ps up down i
    have hb := bkI_in (up := up) (down := down) hlt
    generalize up * ((elAt ps (i + 1)).a0 - (elAt ps i).a0) = U at *
    generalize down * ((elAt ps (i + 1)).a0 - (elAt ps i).a0) = D at *
    exact po_eq rfl (by show max _ _ = max _ _; simp only; omega) (by show min _ _ = min _ _; simp only; omega)
/-- At each place both or neither has a height, where one of the two always has. -/
theorem ok_back {ps : List Po} {up down : Int} (q1 : poB ps = true) (q2 : slB up down = true) (hr : ∀ j, j < ps.length → ¬ (rcA ps up down j).a2 < (rcA ps up down j).a1) : ∀ (m i : Nat), i + m + 1 = ps.length →
    (rcA ps up down i).a1 ≤ (bkI ps up down i).a2 ∧ (bkI ps up down i).a1 ≤ (rcA ps up down i).a2 ∧ (bkI ps up down i).a1 ≤ (bkI ps up down i).a2
  | 0, i, h => by
    have hi : i = ps.length - 1 := by omega
    have e2 : bkI ps up down i = elAt ps i := by
      have := bkI_last ps up down
      rw [← hi] at this
      exact this
    have hl := rcA_le ps up down i
    have := hr i (by omega)
    rw [e2]
    omega
  | m + 1, i, h => by
    have ih := ok_back q1 q2 hr m (i + 1) (by omega)
    have hlt : i + 1 < ps.length := by omega
    have su := step_up q1 q2 hlt
    have r1 := rcA_s1 ps up down i
    have r2 := rcA_s2 ps up down i
    have b1 := bkI_s1 (up := up) (down := down) hlt
    have b2 := bkI_s2 (up := up) (down := down) hlt
    have hl := rcA_le ps up down i
    have hb := bkI_in (up := up) (down := down) hlt
    have h1 := hr i (by omega)
    have h2 := hr (i + 1) hlt
    generalize up * ((elAt ps (i + 1)).a0 - (elAt ps i).a0) = U at *
    generalize down * ((elAt ps (i + 1)).a0 - (elAt ps i).a0) = D at *
    have pa := poAt_facts ((poB_facts q1).1 i (by omega))
    omega
theorem ok_forth {ps : List Po} {up down : Int} (q1 : poB ps = true) (q2 : slB up down = true) (hb : ∀ j, j < ps.length → ¬ (bkI ps up down j).a2 < (bkI ps up down j).a1) : ∀ (i : Nat), i < ps.length →
    (rcA ps up down i).a1 ≤ (bkI ps up down i).a2 ∧ (bkI ps up down i).a1 ≤ (rcA ps up down i).a2 ∧ (rcA ps up down i).a1 ≤ (rcA ps up down i).a2
  | 0, h => by
    have hl := bkI_in (up := up) (down := down) h
    have := hb 0 h
    show (elAt ps 0).a1 ≤ _ ∧ _ ≤ (elAt ps 0).a2 ∧ (elAt ps 0).a1 ≤ (elAt ps 0).a2
    omega
  | i + 1, hlt => by
    have ih := ok_forth q1 q2 hb i (by omega)
    have su := step_up q1 q2 hlt
    have r1 := rcA_s1 ps up down i
    have r2 := rcA_s2 ps up down i
    have b1 := bkI_s1 (up := up) (down := down) hlt
    have b2 := bkI_s2 (up := up) (down := down) hlt
    have hi := bkI_in (up := up) (down := down) hlt
    have h1 := hb i (by omega)
    have h2 := hb (i + 1) hlt
    have pa := poAt_facts ((poB_facts q1).1 (i + 1) hlt)
    generalize up * ((elAt ps (i + 1)).a0 - (elAt ps i).a0) = U at *
    generalize down * ((elAt ps (i + 1)).a0 - (elAt ps i).a0) = D at *
    omega
theorem rcK_le (ps : List Po) (up down : Int) : rcK ps up down ≤ ps.length := by
  unfold rcK
  cases e : (List.range ps.length).find? fun k => decide ((rcA ps up down k).a2 < (rcA ps up down k).a1) with
  | none => simp
  | some k =>
    rw [List.find?_range_eq_some] at e
    have := List.mem_range.1 e.2.1
    simp; omega
theorem rcK_ok {ps : List Po} {up down : Int} {j : Nat} (h : j < rcK ps up down) : ¬ (rcA ps up down j).a2 < (rcA ps up down j).a1 := by
  have hk : j < ps.length := Nat.lt_of_lt_of_le h (rcK_le _ _ _)
  intro hb
  unfold rcK at h
  cases e : (List.range ps.length).find? fun k => decide ((rcA ps up down k).a2 < (rcA ps up down k).a1) with
  | none =>
    rw [List.find?_eq_none] at e
    have := e j (by simpa using hk)
    simp [hb] at this
  | some k =>
    rw [e] at h
    rw [List.find?_range_eq_some] at e
    have := e.2.2 j h
    simp [hb] at this
/-- A way through all is possible just where at each point there is a height. -/
theorem bkB_is {ps : List Po} {up down : Int} (q1 : poB ps = true) (q2 : slB up down = true) : bkB ps up down = decide (rcK ps up down = ps.length) := by
  by_cases h : rcK ps up down = ps.length
  · rw [decide_eq_true h]
    refine decide_eq_true (fun i hi => ?_)
    have := ok_back q1 q2 (fun j hj => rcK_ok (by omega)) (ps.length - 1 - i) i (by omega)
    omega
  · rw [decide_eq_false h]
    refine decide_eq_false (fun hb => h ?_)
    exact rcK_none (fun j hj => by have := ok_forth q1 q2 hb j hj; omega)
/-- The way: the nearest height that leads on is the nearest of those that can be come to. -/
theorem way_step {ps : List Po} {up down first : Int} (q1 : poB ps = true) (q2 : slB up down = true) (q3 : bkB ps up down = true) (q4 : inB first (bkI ps up down 0).a1 (bkI ps up down 0).a2 = true) : ∀ (i : Nat), i < ps.length →
    ((rcA ps up down i).a1 ≤ prA ps up down first i ∧ prA ps up down first i ≤ (rcA ps up down i).a2) ∧ ((bkI ps up down i).a1 ≤ prA ps up down first i ∧ prA ps up down first i ≤ (bkI ps up down i).a2) ∧
    prA ps up down first i = min (max (if i = 0 then first else prA ps up down first (i - 1)) (ldI ps up down ps.length i).a1) (ldI ps up down ps.length i).a2
  | 0, h => by
    have hl := bkI_in (up := up) (down := down) h
    have f4 := in_facts q4
    rw [ld_is q1 q2 (ps.length - 1) 0 (by omega), if_pos rfl]
    show ((elAt ps 0).a1 ≤ first ∧ first ≤ (elAt ps 0).a2) ∧ (_ ≤ first ∧ first ≤ _) ∧ first = min (max first (max (elAt ps 0).a1 _)) (min (elAt ps 0).a2 _)
    omega
  | i + 1, hlt => by
    have ih := way_step q1 q2 q3 q4 i (by omega)
    have su := step_up q1 q2 hlt
    have r1 := rcA_s1 ps up down i
    have r2 := rcA_s2 ps up down i
    have b1 := bkI_s1 (up := up) (down := down) hlt
    have b2 := bkI_s2 (up := up) (down := down) hlt
    have hi := bkI_in (up := up) (down := down) hlt
    have hb := of_decide_eq_true q3 (i + 1) hlt
    have e : prA ps up down first (i + 1) = max (max (bkI ps up down (i + 1)).a1 (prA ps up down first i - down * ((elAt ps (i + 1)).a0 - (elAt ps i).a0)))
      (min (min (bkI ps up down (i + 1)).a2 (prA ps up down first i + up * ((elAt ps (i + 1)).a0 - (elAt ps i).a0))) (prA ps up down first i)) := rfl
    rw [ld_is q1 q2 (ps.length - 1 - (i + 1)) (i + 1) (by omega), if_neg (by omega), Nat.add_sub_cancel]
    generalize prA ps up down first (i + 1) = Y at *
    generalize prA ps up down first i = X at *
    generalize up * ((elAt ps (i + 1)).a0 - (elAt ps i).a0) = U at *
    generalize down * ((elAt ps (i + 1)).a0 - (elAt ps i).a0) = D at *
    simp only
    have ih1 := ih.1
    have ih2 := ih.2.1
    clear ih
    omega
/-- The first place. -/
theorem ld_first {ps : List Po} {up down : Int} (q1 : poB ps = true) (q2 : slB up down = true) : (ldI ps up down ps.length 0).a1 = (bkI ps up down 0).a1 ∧ (ldI ps up down ps.length 0).a2 = (bkI ps up down 0).a2 := by
  have pf := poB_facts q1
  have hl := bkI_in (up := up) (down := down) (ps := ps) (i := 0) (by omega)
  rw [ld_is q1 q2 (ps.length - 1) 0 (by omega)]
  show max (elAt ps 0).a1 _ = _ ∧ min (elAt ps 0).a2 _ = _
  omega
/-- The bounds of what can be had and of what leads on. -/
theorem rcA_bd {ps : List Po} {up down : Int} (q1 : poB ps = true) (q2 : slB up down = true) : ∀ (i : Nat), i < ps.length → (0 ≤ (rcA ps up down i).a1 ∧ (rcA ps up down i).a1 ≤ 100000) ∧ (0 ≤ (rcA ps up down i).a2 ∧ (rcA ps up down i).a2 ≤ 100000)
  | 0, h => by
    have pa := poAt_facts ((poB_facts q1).1 0 h)
    show (0 ≤ (elAt ps 0).a1 ∧ (elAt ps 0).a1 ≤ _) ∧ 0 ≤ (elAt ps 0).a2 ∧ (elAt ps 0).a2 ≤ _
    omega
  | i + 1, hlt => by
    have ih := rcA_bd q1 q2 i (by omega)
    have su := step_up q1 q2 hlt
    have r1 := rcA_s1 ps up down i
    have r2 := rcA_s2 ps up down i
    have pa := poAt_facts ((poB_facts q1).1 (i + 1) hlt)
    generalize up * ((elAt ps (i + 1)).a0 - (elAt ps i).a0) = U at *
    generalize down * ((elAt ps (i + 1)).a0 - (elAt ps i).a0) = D at *
    omega
theorem ldI_last (ps : List Po) (up down : Int) {K : Nat} (hK : 0 < K) : ldI ps up down K (K - 1) = rcA ps up down (K - 1) := by
  have := bkI_last (rcL ps up down K) up down
  rw [rcL_len, rcL_at (by omega)] at this
  exact this
theorem ldI_next (ps : List Po) (up down : Int) {K i : Nat} (h : i + 1 < K) : ldI ps up down K i = ⟨(elAt ps i).a0,
      max (rcA ps up down i).a1 ((ldI ps up down K (i + 1)).a1 - up * ((elAt ps (i + 1)).a0 - (elAt ps i).a0)),
      min (rcA ps up down i).a2 ((ldI ps up down K (i + 1)).a2 + down * ((elAt ps (i + 1)).a0 - (elAt ps i).a0))⟩ := by
  have e1 := bkI_next (ps := rcL ps up down K) (up := up) (down := down) (i := i) (by rw [rcL_len]; exact h)
  rw [rcL_at (by omega), rcL_at (by omega), rcA_far, rcA_far] at e1
  exact e1
theorem ldI_far (ps : List Po) (up down : Int) {K i : Nat} (h : i < K) : (ldI ps up down K i).a0 = (elAt ps i).a0 := by
  by_cases hl : i + 1 < K
  · rw [ldI_next ps up down hl]
  · have e : i = K - 1 := by omega
    rw [e, ldI_last ps up down (by omega), rcA_far]
theorem ldI_bd {ps : List Po} {up down : Int} (q1 : poB ps = true) (q2 : slB up down = true) {K : Nat} (hK : K ≤ ps.length) : ∀ (m i : Nat), i + m + 1 = K → (0 ≤ (ldI ps up down K i).a1 ∧ (ldI ps up down K i).a1 ≤ 100000) ∧ (0 ≤ (ldI ps up down K i).a2 ∧ (ldI ps up down K i).a2 ≤ 100000)
  | 0, i, h => by
    have e : i = K - 1 := by omega
    rw [e, ldI_last ps up down (by omega)]
    exact rcA_bd q1 q2 _ (by omega)
  | m + 1, i, h => by
    have ih := ldI_bd q1 q2 hK m (i + 1) (by omega)
    have r := rcA_bd q1 q2 i (by omega)
    have su := step_up q1 q2 (i := i) (by omega)
    rw [ldI_next ps up down (by omega)]
    generalize up * ((elAt ps (i + 1)).a0 - (elAt ps i).a0) = U at *
    generalize down * ((elAt ps (i + 1)).a0 - (elAt ps i).a0) = D at *
    show (0 ≤ max _ _ ∧ max _ _ ≤ _) ∧ 0 ≤ min _ _ ∧ min _ _ ≤ _
    omega

end Go.Proofs.Ytbaocifpifbldae
