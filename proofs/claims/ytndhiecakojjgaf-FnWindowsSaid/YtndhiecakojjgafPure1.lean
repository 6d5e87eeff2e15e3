/-
  Plans of windows in plain numbers: whether one is so, whose a tick is, how much a partition has. No program here.
  The program's own way with plans in plain numbers: how many windows lie in order, how many have begun; they say what the plain answers say. No program here.
  How much of a frame a partition has and its greatest gap, in plain numbers. No program here.
  Ticks counted: how many of a frame are each partition's, in plain numbers. No program here.
-/
import Derived.Test.YtndhiecakojjgafLowPure
import Derived.Test.YtndhiecakojjgafToWn

namespace Go.Proofs.Ytndhiecakojjgaf
open Go

/-- Where the windows ahead of place k end. -/
def pwE (ws : List Wn) : Nat → Int
  | 0 => 0
  | k + 1 => (elAt ws k).a1 + (elAt ws k).a2
/-- Whether a window is so, the ones ahead ending at e. -/
def wnB (fr pa e : Int) (x : Wn) : Bool := inB x.a0 0 (pa - 1) && inB x.a2 1 10000 && inB x.a1 e fr && decide (x.a1 + x.a2 ≤ fr)
def pwB (fr pa : Int) (ws : List Wn) : Bool := decide (∀ k, k < ws.length → wnB fr pa (pwE ws k) (elAt ws k) = true)
def ppB (fr pa : Int) (ws : List Wn) : Bool := inB fr 1 100000 && inB pa 1 10 && decide (ws.length ≤ 40) && pwB fr pa ws
theorem wnB_facts {fr pa e : Int} {x : Wn} (h : wnB fr pa e x = true) : (0 ≤ x.a0 ∧ x.a0 ≤ pa - 1) ∧ (1 ≤ x.a2 ∧ x.a2 ≤ 10000) ∧ (e ≤ x.a1 ∧ x.a1 ≤ fr) ∧ x.a1 + x.a2 ≤ fr := by
  simp only [wnB, Bool.and_eq_true, decide_eq_true_eq] at h
  exact ⟨in_facts h.1.1.1, in_facts h.1.1.2, in_facts h.1.2, h.2⟩
theorem pwB_no {fr pa : Int} {ws : List Wn} {k : Nat} (hk : k < ws.length) (h : wnB fr pa (pwE ws k) (elAt ws k) = false) : pwB fr pa ws = false := by
  refine decide_eq_false fun q => ?_
  have := q k hk
  rw [h] at this
  cases this
theorem pwB_yes {fr pa : Int} {ws : List Wn} (h : ∀ k, k < ws.length → wnB fr pa (pwE ws k) (elAt ws k) = true) : pwB fr pa ws = true := decide_eq_true h
theorem ppB_facts {fr pa : Int} {ws : List Wn} (h : ppB fr pa ws = true) : (1 ≤ fr ∧ fr ≤ 100000) ∧ (1 ≤ pa ∧ pa ≤ 10) ∧ ws.length ≤ 40 ∧ ∀ k, k < ws.length → wnB fr pa (pwE ws k) (elAt ws k) = true := by
  simp only [ppB, Bool.and_eq_true, decide_eq_true_eq] at h
  exact ⟨in_facts h.1.1.1, in_facts h.1.1.2, h.1.2, of_decide_eq_true h.2⟩
theorem pwE_pos {fr pa : Int} {ws : List Wn} : ∀ k, (∀ j, j < k → wnB fr pa (pwE ws j) (elAt ws j) = true) → 0 ≤ pwE ws k
  | 0, _ => Int.le_refl 0
  | k + 1, h => by
    have ih := pwE_pos k (fun j hj => h j (by omega))
    have w := wnB_facts (h k (by omega))
    show 0 ≤ (elAt ws k).a1 + (elAt ws k).a2
    omega
/-- Every window of a plan that is so. -/
theorem ppB_all {fr pa : Int} {ws : List Wn} (h : ppB fr pa ws = true) {k : Nat} (hk : k < ws.length) : (0 ≤ (elAt ws k).a0 ∧ (elAt ws k).a0 ≤ 9) ∧ (1 ≤ (elAt ws k).a2 ∧ (elAt ws k).a2 ≤ 10000) ∧ (0 ≤ (elAt ws k).a1 ∧ (elAt ws k).a1 ≤ 100000) ∧ (elAt ws k).a1 + (elAt ws k).a2 ≤ fr := by
  have f := ppB_facts h
  have w := wnB_facts (f.2.2.2 k hk)
  have e0 := pwE_pos k (fun j hj => f.2.2.2 j (by omega))
  omega
/-- Whether a tick of the frame is in a window; the first such window, or how many there are. -/
def inW (a : Int) (x : Wn) : Bool := inB a x.a1 (x.a1 + x.a2 - 1)
def owF (ws : List Wn) (a : Int) : Nat := ((List.range ws.length).find? fun k => inW a (elAt ws k)).getD ws.length
def owB (fr pa : Int) (ws : List Wn) (t : Int) : Bool := ppB fr pa ws && inB t 0 100000000
def owR (fr pa : Int) (ws : List Wn) (t : Int) : Int := if owB fr pa ws t = true then (if owF ws (t % fr) < ws.length then (elAt ws (owF ws (t % fr))).a0 else -1) else -1
theorem owF_at {ws : List Wn} {a : Int} {k : Nat} (hk : k < ws.length) (h : inW a (elAt ws k) = true) (hb : ∀ j, j < k → inW a (elAt ws j) = false) : owF ws a = k := by
  have : (List.range ws.length).find? (fun k => inW a (elAt ws k)) = some k := by
    rw [List.find?_range_eq_some]
    exact ⟨h, by simpa using hk, fun j hj => by simpa using hb j hj⟩
  unfold owF; rw [this]; rfl
theorem owF_none {ws : List Wn} {a : Int} (hb : ∀ j, j < ws.length → inW a (elAt ws j) = false) : owF ws a = ws.length := by
  have : (List.range ws.length).find? (fun k => inW a (elAt ws k)) = none := by
    rw [List.find?_eq_none]
    intro i hi
    simpa using hb i (by simpa using hi)
  unfold owF; rw [this]; rfl
theorem ow_no {fr pa t : Int} {ws : List Wn} (h : owB fr pa ws t = false) : owR fr pa ws t = -1 := by simp [owR, h]
theorem ow_at {fr pa t : Int} {ws : List Wn} {k : Nat} (h : owB fr pa ws t = true) (hk : k < ws.length) (e : owF ws (t % fr) = k) : owR fr pa ws t = (elAt ws k).a0 := by simp [owR, h, e, hk]
theorem ow_none {fr pa t : Int} {ws : List Wn} (e : owF ws (t % fr) = ws.length) : owR fr pa ws t = -1 := by simp [owR, e]

end Go.Proofs.Ytndhiecakojjgaf

namespace Go.Proofs.Ytndhiecakojjgaf
open Go

theorem wn_three {fr pa e x0 x1 x2 : Int} : wnB fr pa e ⟨x0, x1, x2⟩ = (inB x0 0 (pa - 1) && inB x2 1 10000 && inB x1 e (fr - x2)) := by
  cases h : inB x2 1 10000 with
  | false => simp [wnB, h]
  | true =>
    have f := in_facts h
    have : (inB x1 e fr && decide (x1 + x2 ≤ fr)) = inB x1 e (fr - x2) := by
      rw [Bool.eq_iff_iff]
      simp only [inB, Bool.and_eq_true, decide_eq_true_eq]
      omega
    rw [wnB]
    simp only [h, Bool.and_true, Bool.and_assoc, this]
/-- How many windows lie in order, up to the first that does not. -/
def pwC (fr pa : Int) (ws : List Wn) : Nat := ((List.range ws.length).find? fun k => !wnB fr pa (pwE ws k) (elAt ws k)).getD ws.length
theorem pwC_at {fr pa : Int} {ws : List Wn} {k : Nat} (hk : k < ws.length) (h : wnB fr pa (pwE ws k) (elAt ws k) = false) (hb : ∀ j, j < k → wnB fr pa (pwE ws j) (elAt ws j) = true) : pwC fr pa ws = k := by
  have : (List.range ws.length).find? (fun k => !wnB fr pa (pwE ws k) (elAt ws k)) = some k := by
    rw [List.find?_range_eq_some]
    exact ⟨by simpa using h, by simpa using hk, fun j hj => by simpa using hb j hj⟩
  unfold pwC; rw [this]; rfl
theorem pwC_all {fr pa : Int} {ws : List Wn} (hb : ∀ j, j < ws.length → wnB fr pa (pwE ws j) (elAt ws j) = true) : pwC fr pa ws = ws.length := by
  have : (List.range ws.length).find? (fun k => !wnB fr pa (pwE ws k) (elAt ws k)) = none := by
    rw [List.find?_eq_none]
    intro i hi
    simpa using hb i (by simpa using hi)
  unfold pwC; rw [this]; rfl
theorem pwC_is (fr pa : Int) (ws : List Wn) : pwB fr pa ws = decide (pwC fr pa ws = ws.length) ∧ pwC fr pa ws ≤ ws.length := by
  cases e : (List.range ws.length).find? (fun k => !wnB fr pa (pwE ws k) (elAt ws k)) with
  | none =>
    have hb : ∀ j, j < ws.length → wnB fr pa (pwE ws j) (elAt ws j) = true := by
      rw [List.find?_eq_none] at e
      intro j hj
      simpa using e j (by simpa using hj)
    rw [pwC_all hb, pwB_yes hb]
    simp
  | some k =>
    rw [List.find?_range_eq_some] at e
    have h1 : wnB fr pa (pwE ws k) (elAt ws k) = false := by simpa using e.1
    have h2 : k < ws.length := by simpa using e.2.1
    rw [pwC_at h2 h1 (fun j hj => by simpa using e.2.2 j hj), pwB_no h2 h1]
    refine ⟨?_, by omega⟩
    rw [eq_comm, decide_eq_false_iff_not]
    omega
/-- How many windows have begun by a tick of the frame. -/
def bgN (ws : List Wn) (a : Int) : Nat := ((List.range ws.length).find? fun k => decide (a < (elAt ws k).a1)).getD ws.length
theorem bgN_at {ws : List Wn} {a : Int} {k : Nat} (hk : k < ws.length) (h : a < (elAt ws k).a1) (hb : ∀ j, j < k → (elAt ws j).a1 ≤ a) : bgN ws a = k := by
  have : (List.range ws.length).find? (fun k => decide (a < (elAt ws k).a1)) = some k := by
    rw [List.find?_range_eq_some]
    exact ⟨by simpa using h, by simpa using hk, fun j hj => by simpa using hb j hj⟩
  unfold bgN; rw [this]; rfl
theorem bgN_all {ws : List Wn} {a : Int} (hb : ∀ j, j < ws.length → (elAt ws j).a1 ≤ a) : bgN ws a = ws.length := by
  have : (List.range ws.length).find? (fun k => decide (a < (elAt ws k).a1)) = none := by
    rw [List.find?_eq_none]
    intro i hi
    simpa using hb i (by simpa using hi)
  unfold bgN; rw [this]; rfl
theorem bgN_is (ws : List Wn) (a : Int) : bgN ws a ≤ ws.length ∧ (∀ j, j < bgN ws a → (elAt ws j).a1 ≤ a) ∧ (bgN ws a < ws.length → a < (elAt ws (bgN ws a)).a1) := by
  cases e : (List.range ws.length).find? (fun k => decide (a < (elAt ws k).a1)) with
  | none =>
    rw [List.find?_eq_none] at e
    have hb : ∀ j, j < ws.length → (elAt ws j).a1 ≤ a := fun j hj => by simpa using e j (by simpa using hj)
    rw [bgN_all hb]
    exact ⟨Nat.le_refl _, hb, fun h => absurd h (Nat.lt_irrefl _)⟩
  | some k =>
    rw [List.find?_range_eq_some] at e
    have h1 : a < (elAt ws k).a1 := by simpa using e.1
    have h2 : k < ws.length := by simpa using e.2.1
    have hb : ∀ j, j < k → (elAt ws j).a1 ≤ a := fun j hj => by simpa using e.2.2 j hj
    rw [bgN_at h2 h1 hb]
    exact ⟨Nat.le_of_lt h2, hb, fun _ => h1⟩
/-- Windows of a plan that is so lie one behind the other. -/
theorem pp_apart {fr pa : Int} {ws : List Wn} (h : ppB fr pa ws = true) {i : Nat} : ∀ d, i + d + 1 < ws.length → (elAt ws i).a1 + (elAt ws i).a2 ≤ (elAt ws (i + d + 1)).a1
  | 0, hj => by
    have w := wnB_facts ((ppB_facts h).2.2.2 (i + 0 + 1) hj)
    exact w.2.2.1.1
  | d + 1, hj => by
    have ih := pp_apart h (i := i) d (by omega)
    have w := wnB_facts ((ppB_facts h).2.2.2 (i + (d + 1) + 1) hj)
    have w2 := ppB_all h (k := i + d + 1) (by omega)
    have e : pwE ws (i + (d + 1) + 1) = (elAt ws (i + d + 1)).a1 + (elAt ws (i + d + 1)).a2 := rfl
    rw [e] at w
    omega
theorem pp_behind {fr pa : Int} {ws : List Wn} (h : ppB fr pa ws = true) {i j : Nat} (hij : i < j) (hj : j < ws.length) : (elAt ws i).a1 + (elAt ws i).a2 ≤ (elAt ws j).a1 := by
  have := pp_apart h (i := i) (j - i - 1) (by omega)
  rwa [show i + (j - i - 1) + 1 = j by omega] at this
/-- Whose a tick is, by the last window that has begun. -/
theorem inW_no {a : Int} {x : Wn} (h : a < x.a1 ∨ x.a1 + x.a2 ≤ a) : inW a x = false := by
  rw [inW, inB]
  simp only [decide_eq_false_iff_not]
  omega
theorem inW_yes {a : Int} {x : Wn} (h : x.a1 ≤ a) (h2 : a < x.a1 + x.a2) : inW a x = true := by
  rw [inW, inB]
  simp only [decide_eq_true_eq]
  omega
theorem owF_begun {fr pa : Int} {ws : List Wn} (h : ppB fr pa ws = true) {a : Int} : (bgN ws a = 0 → owF ws a = ws.length) ∧ ∀ m, bgN ws a = m + 1 → m < ws.length ∧ ((elAt ws m).a1 + (elAt ws m).a2 ≤ a → owF ws a = ws.length) ∧ (a < (elAt ws m).a1 + (elAt ws m).a2 → owF ws a = m) := by
  have g := bgN_is ws a
  have late : ∀ j, bgN ws a ≤ j → j < ws.length → inW a (elAt ws j) = false := fun j hj hl => by
    refine inW_no (.inl ?_)
    have h1 := g.2.2 (by omega)
    by_cases e : j = bgN ws a
    · rw [e]; exact h1
    · have := pp_behind h (i := bgN ws a) (j := j) (by omega) hl
      have w := ppB_all h (k := bgN ws a) (by omega)
      omega
  refine ⟨fun h0 => owF_none fun j hj => late j (by omega) hj, fun m hm => ?_⟩
  have hml : m < ws.length := by omega
  have early : ∀ j, j < m → inW a (elAt ws j) = false := fun j hj => by
    refine inW_no (.inr ?_)
    have h1 := g.2.1 m (by omega)
    have := pp_behind h hj hml
    omega
  refine ⟨hml, fun he => owF_none fun j hj => ?_, fun he => owF_at hml (inW_yes (g.2.1 m (by omega)) he) early⟩
  rcases Nat.lt_trichotomy j m with k | k | k
  · exact early j k
  · subst k; exact inW_no (.inr he)
  · exact late j (by omega) hj

end Go.Proofs.Ytndhiecakojjgaf

namespace Go.Proofs.Ytndhiecakojjgaf
open Go

/-- The windows of a partition among the first k. -/
def shM (ws : List Wn) (p : Int) : Nat → List Wn
  | 0 => []
  | k + 1 => if (elAt ws k).a0 = p then shM ws p k ++ [elAt ws k] else shM ws p k
/-- The sum of their lengths. -/
def shS (ws : List Wn) (p : Int) : Nat → Int
  | 0 => 0
  | k + 1 => if (elAt ws k).a0 = p then shS ws p k + (elAt ws k).a2 else shS ws p k
/-- Where the next window after place i starts, the first one of the next frame behind the last. -/
def shN (fr : Int) (ms : List Wn) (i : Nat) : Int := if i + 1 < ms.length then (elAt ms (i + 1)).a1 else (elAt ms 0).a1 + fr
/-- The greatest gap behind one of the first k. -/
def shG (fr : Int) (ms : List Wn) : Nat → Int
  | 0 => 0
  | k + 1 => max (shG fr ms k) (shN fr ms k - (elAt ms k).a1 - (elAt ms k).a2)
def shB (fr pa : Int) (ws : List Wn) (p : Int) : Bool := ppB fr pa ws && inB p 0 (pa - 1)
def shR (fr pa : Int) (ws : List Wn) (p : Int) : Int := if shB fr pa ws p = true then shS ws p ws.length else 0
def shQ (fr pa : Int) (ws : List Wn) (p : Int) : Int :=
  if shB fr pa ws p = true then (if (shM ws p ws.length).length = 0 then fr else shG fr (shM ws p ws.length) (shM ws p ws.length).length) else 0

/-- What a window of a plan that is so keeps to. -/
def WnIn (x : Wn) : Prop := (0 ≤ x.a1 ∧ x.a1 ≤ 100000) ∧ (1 ≤ x.a2 ∧ x.a2 ≤ 10000)
theorem shM_len (ws : List Wn) (p : Int) : ∀ k, (shM ws p k).length ≤ k
  | 0 => Nat.le_refl 0
  | k + 1 => by
    have ih := shM_len ws p k
    simp only [shM]
    split
    · simp; omega
    · omega
theorem shM_in {ws : List Wn} (p : Int) (n : Nat) (h : ∀ j, j < n → WnIn (elAt ws j)) : ∀ k, k ≤ n → ∀ i, i < (shM ws p k).length → WnIn (elAt (shM ws p k) i)
  | 0, _, i, hi => by simp [shM] at hi
  | k + 1, hk, i, hi => by
    have ih := shM_in p n h k (by omega)
    simp only [shM] at hi ⊢
    split at hi
    · rename_i e
      rw [if_pos e]
      by_cases q : i < (shM ws p k).length
      · rw [(elAt_app _ _).1 i q]; exact ih i q
      · have e2 : i = (shM ws p k).length := by simp at hi; omega
        rw [e2, (elAt_app _ _).2]; exact h k (by omega)
    · rename_i e
      rw [if_neg e]; exact ih i hi
theorem shS_in {ws : List Wn} (p : Int) (n : Nat) (h : ∀ j, j < n → WnIn (elAt ws j)) : ∀ k, k ≤ n → 0 ≤ shS ws p k ∧ shS ws p k ≤ 10000 * (k : Int)
  | 0, _ => by simp [shS]
  | k + 1, hk => by
    have ih := shS_in p n h k (by omega)
    have q := h k (by omega)
    simp only [WnIn] at q
    simp only [shS]
    split <;> omega
theorem shN_in {fr : Int} {ms : List Wn} (hf : 1 ≤ fr ∧ fr ≤ 100000) (h : ∀ i, i < ms.length → WnIn (elAt ms i)) {i : Nat} (hi : i < ms.length) : 0 ≤ shN fr ms i ∧ shN fr ms i ≤ 200000 := by
  have q0 := h 0 (by omega)
  simp only [WnIn] at q0
  simp only [shN]
  split
  · rename_i e
    have q := h (i + 1) e
    simp only [WnIn] at q
    omega
  · omega
theorem shG_in {fr : Int} {ms : List Wn} (hf : 1 ≤ fr ∧ fr ≤ 100000) (h : ∀ i, i < ms.length → WnIn (elAt ms i)) : ∀ k, k ≤ ms.length → 0 ≤ shG fr ms k ∧ shG fr ms k ≤ 200000
  | 0, _ => by simp [shG]
  | k + 1, hk => by
    have ih := shG_in hf h k (by omega)
    have q := h k (by omega)
    have r := shN_in hf h (show k < ms.length by omega)
    simp only [WnIn] at q
    simp only [shG]
    omega
theorem ppB_in {fr pa : Int} {ws : List Wn} (h : ppB fr pa ws = true) : ∀ j, j < ws.length → WnIn (elAt ws j) := fun j hj => by
  have q := ppB_all h hj
  exact ⟨q.2.2.1, q.2.1⟩
theorem sh_no {fr pa p : Int} {ws : List Wn} (h : shB fr pa ws p = false) : shR fr pa ws p = 0 ∧ shQ fr pa ws p = 0 := by simp [shR, shQ, h]
theorem sh_none {fr pa p : Int} {ws : List Wn} (h : shB fr pa ws p = true) (e : (shM ws p ws.length).length = 0) : shQ fr pa ws p = fr := by simp [shQ, h, e]
theorem sh_yes {fr pa p : Int} {ws : List Wn} (h : shB fr pa ws p = true) (e : (shM ws p ws.length).length ≠ 0) : shR fr pa ws p = shS ws p ws.length ∧ shQ fr pa ws p = shG fr (shM ws p ws.length) (shM ws p ws.length).length := by simp [shR, shQ, h, e]
theorem shS_none {ws : List Wn} {p : Int} : ∀ k, (shM ws p k).length = 0 → shS ws p k = 0
  | 0, _ => rfl
  | k + 1, h => by
    simp only [shM] at h
    simp only [shS]
    split at h
    · simp at h
    · rename_i e
      rw [if_neg e]; exact shS_none k h

end Go.Proofs.Ytndhiecakojjgaf

namespace Go.Proofs.Ytndhiecakojjgaf
open Go

/-- How many of the first n ticks are so. -/
def cntB (P : Nat → Bool) : Nat → Int
  | 0 => 0
  | n + 1 => cntB P n + if P n = true then 1 else 0
theorem cntB_pos (P : Nat → Bool) : ∀ n, 0 ≤ cntB P n ∧ cntB P n ≤ (n : Int)
  | 0 => by simp [cntB]
  | n + 1 => by
    have := cntB_pos P n
    simp only [cntB]
    split <;> omega
theorem cntB_cong {P Q : Nat → Bool} : ∀ n, (∀ t, t < n → P t = Q t) → cntB P n = cntB Q n
  | 0, _ => rfl
  | n + 1, h => by rw [cntB, cntB, cntB_cong n (fun t ht => h t (by omega)), h n (by omega)]
theorem cntB_or {P Q : Nat → Bool} : ∀ n, (∀ t, t < n → P t = true → Q t = true → False) → cntB (fun t => P t || Q t) n = cntB P n + cntB Q n
  | 0, _ => rfl
  | n + 1, h => by
    have ih := cntB_or n (fun t ht => h t (by omega))
    have d := h n (by omega)
    rw [cntB, cntB, cntB, ih]
    cases hp : P n <;> cases hq : Q n
    · simp
    · simp; omega
    · simp; omega
    · exact (d hp hq).elim
theorem cntB_none {P : Nat → Bool} : ∀ n, (∀ t, t < n → P t = false) → cntB P n = 0
  | 0, _ => rfl
  | n + 1, h => by rw [cntB, cntB_none n (fun t ht => h t (by omega)), h n (by omega)]; rfl
theorem cntB_win {a b : Int} (h0 : 0 ≤ a) (h1 : a ≤ b) : ∀ n : Nat, cntB (fun t => inB (t : Int) a (b - 1)) n = max 0 (min (n : Int) b - a)
  | 0 => by simp only [cntB]; omega
  | n + 1 => by
    rw [cntB, cntB_win h0 h1 n]
    by_cases q : inB (n : Int) a (b - 1) = true
    · have f := in_facts q
      rw [if_pos q]
      omega
    · rw [if_neg q]
      have : ¬ (a ≤ (n : Int) ∧ (n : Int) ≤ b - 1) := fun h => q (by simp only [inB, decide_eq_true_eq]; exact h)
      omega
/-- Whether a tick is in one of the first j windows of a partition; of any. -/
def pK (ws : List Wn) (k : Int) : Nat → Int → Bool
  | 0, _ => false
  | j + 1, t => pK ws k j t || (decide ((elAt ws j).a0 = k) && inW t (elAt ws j))
def pA (ws : List Wn) : Nat → Int → Bool
  | 0, _ => false
  | j + 1, t => pA ws j t || inW t (elAt ws j)
def totL (ws : List Wn) : Nat → Int
  | 0 => 0
  | j + 1 => totL ws j + (elAt ws j).a2
theorem pA_lt {fr pa : Int} {ws : List Wn} (h : ppB fr pa ws = true) : ∀ j, j ≤ ws.length → ∀ t, pA ws j t = true → t < pwE ws j
  | 0, _, t, q => by simp [pA] at q
  | j + 1, hj, t, q => by
    have w := wnB_facts ((ppB_facts h).2.2.2 j (by omega))
    simp only [pA, Bool.or_eq_true] at q
    show t < (elAt ws j).a1 + (elAt ws j).a2
    rcases q with q | q
    · have := pA_lt h j (by omega) t q
      omega
    · have := in_facts (show inB _ _ _ = true from q)
      omega
theorem pK_pA {ws : List Wn} {k t : Int} : ∀ j, pK ws k j t = true → pA ws j t = true
  | 0, q => q
  | j + 1, q => by
    simp only [pK, Bool.or_eq_true, Bool.and_eq_true] at q
    simp only [pA, Bool.or_eq_true]
    rcases q with q | q
    · exact .inl (pK_pA j q)
    · exact .inr q.2
theorem cnt_win {fr pa : Int} {ws : List Wn} (h : ppB fr pa ws = true) {j : Nat} (hj : j < ws.length) : cntB (fun t => inW (t : Int) (elAt ws j)) fr.toNat = (elAt ws j).a2 := by
  have f := (ppB_facts h).1
  have w := ppB_all h hj
  have := cntB_win (a := (elAt ws j).a1) (b := (elAt ws j).a1 + (elAt ws j).a2) (by omega) (by omega) fr.toNat
  rw [show (fun t : Nat => inW (t : Int) (elAt ws j)) = (fun t : Nat => inB (t : Int) (elAt ws j).a1 ((elAt ws j).a1 + (elAt ws j).a2 - 1)) from rfl, this]
  omega
theorem cnt_part {fr pa : Int} {ws : List Wn} (h : ppB fr pa ws = true) (k : Int) : ∀ j, j ≤ ws.length → cntB (fun t => pK ws k j (t : Int)) fr.toNat = shS ws k j
  | 0, _ => cntB_none _ (fun _ _ => rfl)
  | j + 1, hj => by
    have ih := cnt_part h k j (by omega)
    have w := wnB_facts ((ppB_facts h).2.2.2 j (by omega))
    show cntB (fun t => pK ws k j (t : Int) || (decide ((elAt ws j).a0 = k) && inW (t : Int) (elAt ws j))) fr.toNat = _
    rw [cntB_or _ (fun t _ h1 h2 => by
      have a := pA_lt h j (by omega) _ (pK_pA j h1)
      rw [Bool.and_eq_true] at h2
      have b := in_facts (show inB _ _ _ = true from h2.2)
      omega), ih]
    simp only [shS]
    by_cases q : (elAt ws j).a0 = k
    · rw [if_pos q]
      have e : cntB (fun t => decide ((elAt ws j).a0 = k) && inW (t : Int) (elAt ws j)) fr.toNat = cntB (fun t => inW (t : Int) (elAt ws j)) fr.toNat := cntB_cong _ (fun t _ => by simp [q])
      rw [e, cnt_win h (by omega)]
    · rw [if_neg q]
      have e : cntB (fun t => decide ((elAt ws j).a0 = k) && inW (t : Int) (elAt ws j)) fr.toNat = 0 := cntB_none _ (fun t _ => by simp [q])
      rw [e, Int.add_zero]
theorem cnt_all {fr pa : Int} {ws : List Wn} (h : ppB fr pa ws = true) : ∀ j, j ≤ ws.length → cntB (fun t => pA ws j (t : Int)) fr.toNat = totL ws j
  | 0, _ => cntB_none _ (fun _ _ => rfl)
  | j + 1, hj => by
    have ih := cnt_all h j (by omega)
    have w := wnB_facts ((ppB_facts h).2.2.2 j (by omega))
    show cntB (fun t => pA ws j (t : Int) || inW (t : Int) (elAt ws j)) fr.toNat = _
    rw [cntB_or _ (fun t _ h1 h2 => by
      have a := pA_lt h j (by omega) _ h1
      have b := in_facts (show inB _ _ _ = true from h2)
      omega), ih, cnt_win h (by omega)]
    rfl
theorem totL_le {fr pa : Int} {ws : List Wn} (h : ppB fr pa ws = true) : ∀ j, j ≤ ws.length → 0 ≤ totL ws j ∧ totL ws j ≤ pwE ws j ∧ pwE ws j ≤ fr
  | 0, _ => by have := (ppB_facts h).1; simp only [totL, pwE]; omega
  | j + 1, hj => by
    have ih := totL_le h j (by omega)
    have w := wnB_facts ((ppB_facts h).2.2.2 j (by omega))
    show 0 ≤ totL ws j + (elAt ws j).a2 ∧ totL ws j + (elAt ws j).a2 ≤ (elAt ws j).a1 + (elAt ws j).a2 ∧ (elAt ws j).a1 + (elAt ws j).a2 ≤ fr
    omega
/-- Where a tick is. -/
theorem ow_char {fr pa t : Int} {ws : List Wn} (hb : owB fr pa ws t = true) : (∃ i, i < ws.length ∧ inW (t % fr) (elAt ws i) = true ∧ owR fr pa ws t = (elAt ws i).a0) ∨ ((∀ i, i < ws.length → inW (t % fr) (elAt ws i) = false) ∧ owR fr pa ws t = -1) := by
  cases e : (List.range ws.length).find? (fun k => inW (t % fr) (elAt ws k)) with
  | none =>
    rw [List.find?_eq_none] at e
    have hn : ∀ j, j < ws.length → inW (t % fr) (elAt ws j) = false := fun j hj => by simpa using e j (by simpa using hj)
    exact .inr ⟨hn, ow_none (owF_none hn)⟩
  | some k =>
    rw [List.find?_range_eq_some] at e
    have h2 : k < ws.length := by simpa using e.2.1
    exact .inl ⟨k, h2, e.1, ow_at hb h2 (owF_at h2 e.1 (fun j hj => by simpa using e.2.2 j hj))⟩
theorem inW_one {fr pa a : Int} {ws : List Wn} (h : ppB fr pa ws = true) {i j : Nat} (hi : i < ws.length) (hj : j < ws.length) (h1 : inW a (elAt ws i) = true) (h2 : inW a (elAt ws j) = true) : i = j := by
  have f1 := in_facts (show inB _ _ _ = true from h1)
  have f2 := in_facts (show inB _ _ _ = true from h2)
  rcases Nat.lt_trichotomy i j with q | q | q
  · have := pp_behind h q hj; omega
  · exact q
  · have := pp_behind h q hi; omega
theorem pK_iff {ws : List Wn} {k t : Int} : ∀ j, pK ws k j t = true ↔ ∃ i, i < j ∧ (elAt ws i).a0 = k ∧ inW t (elAt ws i) = true
  | 0 => by simp [pK]
  | j + 1 => by
    simp only [pK, Bool.or_eq_true, Bool.and_eq_true, decide_eq_true_eq]
    rw [pK_iff j]
    constructor
    · rintro (⟨i, h1, h2⟩ | h)
      · exact ⟨i, by omega, h2⟩
      · exact ⟨j, by omega, h⟩
    · rintro ⟨i, h1, h2⟩
      by_cases e : i = j
      · subst e; exact .inr h2
      · exact .inl ⟨i, by omega, h2⟩
theorem pA_iff {ws : List Wn} {t : Int} : ∀ j, pA ws j t = true ↔ ∃ i, i < j ∧ inW t (elAt ws i) = true
  | 0 => by simp [pA]
  | j + 1 => by
    simp only [pA, Bool.or_eq_true]
    rw [pA_iff j]
    constructor
    · rintro (⟨i, h1, h2⟩ | h)
      · exact ⟨i, by omega, h2⟩
      · exact ⟨j, by omega, h⟩
    · rintro ⟨i, h1, h2⟩
      by_cases e : i = j
      · subst e; exact .inr h2
      · exact .inl ⟨i, by omega, h2⟩
theorem owB_is {fr pa t : Int} {ws : List Wn} (h : ppB fr pa ws = true) (ht : 0 ≤ t ∧ t ≤ 100000000) : owB fr pa ws t = true := by
  simp only [owB, h, inB, Bool.true_and, decide_eq_true_eq]
  omega
theorem mod_small {t fr : Int} (h : 0 ≤ t) (h2 : t < fr) : t % fr = t := Int.emod_eq_of_lt h h2
/-- Whose a tick of the first frame is, by those counts' tests. -/
theorem ow_part {fr pa : Int} {ws : List Wn} (h : ppB fr pa ws = true) {t : Int} (h0 : 0 ≤ t) (h1 : t < fr) {k : Int} (hk : 0 ≤ k) : (owR fr pa ws t = k) ↔ pK ws k ws.length t = true := by
  have f := (ppB_facts h).1
  have c := ow_char (owB_is h (t := t) (by omega))
  rw [mod_small h0 h1] at c
  rw [pK_iff]
  rcases c with ⟨i, a, b, e⟩ | ⟨a, e⟩
  · rw [e]
    constructor
    · intro q; exact ⟨i, a, q, b⟩
    · rintro ⟨j, p, q, r⟩
      rw [← inW_one h p a r b]; exact q
  · rw [e]
    constructor
    · intro q; omega
    · rintro ⟨j, p, q, r⟩
      rw [a j p] at r; cases r
theorem ow_any {fr pa : Int} {ws : List Wn} (h : ppB fr pa ws = true) {t : Int} (h0 : 0 ≤ t) (h1 : t < fr) : (0 ≤ owR fr pa ws t) ↔ pA ws ws.length t = true := by
  have f := (ppB_facts h).1
  have c := ow_char (owB_is h (t := t) (by omega))
  rw [mod_small h0 h1] at c
  rw [pA_iff]
  rcases c with ⟨i, a, b, e⟩ | ⟨a, e⟩
  · have w := ppB_all h a
    rw [e]
    exact ⟨fun _ => ⟨i, a, b⟩, fun _ => w.1.1⟩
  · rw [e]
    constructor
    · intro q; omega
    · rintro ⟨j, p, r⟩
      rw [a j p] at r; cases r
theorem ow_bounds {fr pa t : Int} {ws : List Wn} (h : ppB fr pa ws = true) (ht : 0 ≤ t ∧ t ≤ 100000000) : -1 ≤ owR fr pa ws t ∧ owR fr pa ws t < pa := by
  have f := (ppB_facts h).2.1
  rcases ow_char (owB_is h ht) with ⟨i, a, _, e⟩ | ⟨_, e⟩
  · have w := wnB_facts ((ppB_facts h).2.2.2 i a)
    omega
  · omega
theorem ow_again {fr pa t : Int} {ws : List Wn} (h : ppB fr pa ws = true) (ht : 0 ≤ t ∧ t + fr ≤ 100000000) : owR fr pa ws (t + fr) = owR fr pa ws t := by
  have f := (ppB_facts h).1
  have e : (t + fr) % fr = t % fr := Int.add_emod_right t fr
  unfold owR
  rw [owB_is h (t := t) (by omega), owB_is h (t := t + fr) (by omega), e]
/-- What partitions have together. -/
def psum (ws : List Wn) : Nat → Int
  | 0 => 0
  | k + 1 => psum ws k + shS ws (k : Int) ws.length
def psJ (ws : List Wn) (j : Nat) : Nat → Int
  | 0 => 0
  | k + 1 => psJ ws j k + shS ws (k : Int) j
theorem psJ_step (ws : List Wn) (j : Nat) : ∀ P : Nat, psJ ws (j + 1) P = psJ ws j P + if 0 ≤ (elAt ws j).a0 ∧ (elAt ws j).a0 < (P : Int) then (elAt ws j).a2 else 0
  | 0 => by rw [psJ, psJ, if_neg (by omega)]; rfl
  | P + 1 => by
    rw [psJ, psJ, psJ_step ws j P]
    simp only [shS]
    by_cases q : (elAt ws j).a0 = (P : Int)
    · rw [if_pos q, if_neg (by omega), if_pos (by omega)]
      omega
    · rw [if_neg q]
      by_cases q2 : 0 ≤ (elAt ws j).a0 ∧ (elAt ws j).a0 < (P : Int)
      · rw [if_pos q2, if_pos (by omega)]; omega
      · rw [if_neg q2, if_neg (by omega)]; omega
theorem psJ_all {fr pa : Int} {ws : List Wn} (h : ppB fr pa ws = true) {P : Nat} (hP : (P : Int) = pa) : ∀ j, j ≤ ws.length → psJ ws j P = totL ws j
  | 0, _ => by
    have : ∀ P : Nat, psJ ws 0 P = 0 := fun P => by
      induction P with
      | zero => rfl
      | succ P ih => rw [psJ, ih]; rfl
    exact this P
  | j + 1, hj => by
    have w := wnB_facts ((ppB_facts h).2.2.2 j (by omega))
    rw [psJ_step, psJ_all h hP j (by omega), if_pos (by omega)]
    rfl
theorem psum_psJ (ws : List Wn) : ∀ P, psum ws P = psJ ws ws.length P
  | 0 => rfl
  | P + 1 => by rw [psum, psJ, psum_psJ ws P]
theorem psum_all {fr pa : Int} {ws : List Wn} (h : ppB fr pa ws = true) {P : Nat} (hP : (P : Int) = pa) : psum ws P = totL ws ws.length ∧ 0 ≤ psum ws P ∧ psum ws P ≤ fr := by
  have e := (psum_psJ ws P).trans (psJ_all h hP ws.length (Nat.le_refl _))
  have t := totL_le h ws.length (Nat.le_refl _)
  rw [e]
  omega

end Go.Proofs.Ytndhiecakojjgaf
