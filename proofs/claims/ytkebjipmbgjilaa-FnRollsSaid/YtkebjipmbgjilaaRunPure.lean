/-
  Plain mathematics of runways: how a speed grows, a roll, a stop, the speeds that suffice. No program here.
-/
import Derived.Test.YtkebjipmbgjilaaBase
namespace Go.Proofs.Ytkebjipmbgjilaa

def runB (p d s e : Int) : Bool := inB p 1 40 && inB d 0 20 && inB s 1 40 && inB e 2 4
theorem runB_facts {p d s e : Int} (h : runB p d s e = true) : (1 ≤ p ∧ p ≤ 40) ∧ (0 ≤ d ∧ d ≤ 20) ∧ (1 ≤ s ∧ s ≤ 40) ∧ (2 ≤ e ∧ e ≤ 4) := by
  simp only [runB, inB, Bool.and_eq_true, decide_eq_true_eq] at h; omega

/-- How much a speed grows in a tick with k engines. -/
def grow (p d k : Int) : Int := if k * p < d then 0 else k * p - d
theorem grow_bd {p d k : Int} (hp : 1 ≤ p ∧ p ≤ 40) (hd : 0 ≤ d ∧ d ≤ 20) (hk : 1 ≤ k ∧ k ≤ 4) : (0 ≤ grow p d k ∧ grow p d k ≤ 160) ∧ (0 ≤ k * p ∧ k * p ≤ 160) := by
  have h : k = 1 ∨ k = 2 ∨ k = 3 ∨ k = 4 := by omega
  unfold grow
  rcases h with h | h | h | h <;> subst h <;> split <;> omega
theorem grow_no {p d k : Int} (h : k * p < d) : grow p d k = 0 := by unfold grow; rw [if_pos h]
theorem grow_yes {p d k : Int} (h : ¬ k * p < d) : grow p d k = k * p - d := by unfold grow; rw [if_neg h]

/-- What the speed grows by in a tick of the roll that begins at speed s. -/
def rollUp (p d e fail s : Int) : Int := grow p d (if fail ≤ s then e - 1 else e)
theorem rollUp_less {p d e fail s : Int} (h : fail ≤ s) : rollUp p d e fail s = grow p d (e - 1) := by unfold rollUp; rw [if_pos h]
theorem rollUp_all {p d e fail s : Int} (h : ¬ fail ≤ s) : rollUp p d e fail s = grow p d e := by unfold rollUp; rw [if_neg h]

def rollF (p d e fail lift : Int) : Nat → Int → Int → Int → Int × Int × Bool
  | 0, _, f, t => (f, t, true)
  | n + 1, s, f, t => if lift ≤ s then (f, t, true) else if rollUp p d e fail s = 0 then (0, 0, false) else rollF p d e fail lift n (s + rollUp p d e fail s) (f + (s + rollUp p d e fail s)) (t + 1)

theorem roll_end {p d e fail lift s f t : Int} {n : Nat} (h : lift ≤ s) : rollF p d e fail lift n s f t = (f, t, true) := by
  cases n with
  | zero => rfl
  | succ n => simp [rollF, h]
theorem roll_no {p d e fail lift s f t : Int} {n : Nat} (h : ¬ lift ≤ s) (hn : lift - s ≤ n) (h0 : rollUp p d e fail s = 0) : rollF p d e fail lift n s f t = (0, 0, false) := by
  cases n with
  | zero => omega
  | succ n => simp [rollF, h, h0]
theorem roll_go {p d e fail lift s f t : Int} {n : Nat} (h : ¬ lift ≤ s) (hn : lift - s ≤ n) (h0 : 1 ≤ rollUp p d e fail s) :
    ∃ m : Nat, rollF p d e fail lift n s f t = rollF p d e fail lift m (s + rollUp p d e fail s) (f + (s + rollUp p d e fail s)) (t + 1) ∧ lift - (s + rollUp p d e fail s) ≤ m := by
  cases n with
  | zero => omega
  | succ n => exact ⟨n, by simp only [rollF]; rw [if_neg h, if_neg (by omega)], by omega⟩

def rollOk (p d s e fail lift : Int) : Bool := runB p d s e && inB fail 0 400 && inB lift 1 400
def rollR (p d s e fail lift : Int) : Int × Int × Bool := if rollOk p d s e fail lift then rollF p d e fail lift 400 0 0 0 else (0, 0, false)
theorem rollR_no {p d s e fail lift : Int} (h : rollOk p d s e fail lift = false) : rollR p d s e fail lift = (0, 0, false) := by unfold rollR; rw [h]; rfl
theorem rollR_yes {p d s e fail lift : Int} (h : rollOk p d s e fail lift = true) : rollR p d s e fail lift = rollF p d e fail lift 400 0 0 0 := by unfold rollR; rw [h]; rfl

/-- One tick of braking. -/
def less (st s : Int) : Int := if s < st then 0 else s - st
def brakeF (st : Int) : Nat → Int → Int → Int
  | 0, _, f => f
  | n + 1, s, f => if s ≤ 0 then f else brakeF st n (less st s) (f + less st s)
theorem less_bd {st s : Int} (h : 1 ≤ st) (hs : 0 < s) : 0 ≤ less st s ∧ less st s ≤ s - 1 := by unfold less; split <;> omega
theorem brake_end {st s f : Int} {n : Nat} (h : s ≤ 0) : brakeF st n s f = f := by
  cases n with
  | zero => rfl
  | succ n => simp [brakeF, h]
theorem brake_go {st s f : Int} {n : Nat} (h1 : 1 ≤ st) (h : 0 < s) (hn : s ≤ n) : ∃ m : Nat, brakeF st n s f = brakeF st m (less st s) (f + less st s) ∧ less st s ≤ m := by
  cases n with
  | zero => omega
  | succ n => exact ⟨n, by simp only [brakeF]; rw [if_neg (by omega)], by have := less_bd h1 h; omega⟩

def stopF (p d st e fail : Int) : Nat → Int → Int → Int × Bool
  | 0, s, f => (brakeF st 2000 (s + grow p d (e - 1)) (f + (s + grow p d (e - 1))), true)
  | n + 1, s, f => if fail ≤ s then (brakeF st 2000 (s + grow p d (e - 1)) (f + (s + grow p d (e - 1))), true) else if grow p d e = 0 then (0, false) else stopF p d st e fail n (s + grow p d e) (f + (s + grow p d e))
theorem stop_end {p d st e fail s f : Int} {n : Nat} (h : fail ≤ s) : stopF p d st e fail n s f = (brakeF st 2000 (s + grow p d (e - 1)) (f + (s + grow p d (e - 1))), true) := by
  cases n with
  | zero => rfl
  | succ n => simp [stopF, h]
theorem stop_no {p d st e fail s f : Int} {n : Nat} (h : ¬ fail ≤ s) (hn : fail - s ≤ n) (h0 : grow p d e = 0) : stopF p d st e fail n s f = (0, false) := by
  cases n with
  | zero => omega
  | succ n => simp [stopF, h, h0]
theorem stop_go {p d st e fail s f : Int} {n : Nat} (h : ¬ fail ≤ s) (hn : fail - s ≤ n) (h0 : 1 ≤ grow p d e) :
    ∃ m : Nat, stopF p d st e fail n s f = stopF p d st e fail m (s + grow p d e) (f + (s + grow p d e)) ∧ fail - (s + grow p d e) ≤ m := by
  cases n with
  | zero => omega
  | succ n => exact ⟨n, by simp only [stopF]; rw [if_neg h, if_neg (by omega)], by omega⟩
def stopOk (p d s e fail : Int) : Bool := runB p d s e && inB fail 0 400
def stopR (p d s e fail : Int) : Int × Bool := if stopOk p d s e fail then stopF p d s e fail 400 0 0 else (0, false)
theorem stopR_no {p d s e fail : Int} (h : stopOk p d s e fail = false) : stopR p d s e fail = (0, false) := by unfold stopR; rw [h]; rfl
theorem stopR_yes {p d s e fail : Int} (h : stopOk p d s e fail = true) : stopR p d s e fail = stopF p d s e fail 400 0 0 := by unfold stopR; rw [h]; rfl

/-- Whether a failure at v leaves both ways open. -/
def suffB (p d s e lift way v : Int) : Bool := (rollR p d s e v lift).2.2 && (stopR p d s e v).2 && decide ((rollR p d s e v lift).1 ≤ way) && decide ((stopR p d s e v).1 ≤ way)
def lowS (p d s e lift way : Int) : Nat → Int
  | 0 => -1
  | k + 1 => if suffB p d s e lift way k then (if lowS p d s e lift way k < 0 then (k : Int) else lowS p d s e lift way k) else lowS p d s e lift way k
def highS (p d s e lift way : Int) : Nat → Int
  | 0 => -1
  | k + 1 => if suffB p d s e lift way k then (k : Int) else highS p d s e lift way k
theorem low_bd (p d s e lift way : Int) (k : Nat) : (-1 ≤ lowS p d s e lift way k ∧ lowS p d s e lift way k < k) ∧ (-1 ≤ highS p d s e lift way k ∧ highS p d s e lift way k < k) := by
  induction k with
  | zero => simp [lowS, highS]
  | succ k ih => simp only [lowS, highS]; split <;> (try split) <;> omega
/-- The least and the greatest of the first k speeds that suffice. -/
theorem low_is {p d s e lift way : Int} (k : Nat) :
    (lowS p d s e lift way k < 0 ∧ highS p d s e lift way k = -1 ∧ ∀ v : Nat, v < k → suffB p d s e lift way v = false) ∨
    ∃ a b : Nat, a ≤ b ∧ b < k ∧ lowS p d s e lift way k = a ∧ highS p d s e lift way k = b ∧ suffB p d s e lift way a = true ∧ suffB p d s e lift way b = true ∧ ∀ v : Nat, v < k → suffB p d s e lift way v = true → a ≤ v ∧ v ≤ b := by
  induction k with
  | zero => exact .inl ⟨by simp [lowS], rfl, fun v hv => by omega⟩
  | succ k ih =>
    simp only [lowS, highS]
    cases hs : suffB p d s e lift way k
    · rcases ih with ⟨h1, h2, h3⟩ | ⟨a, b, h1, h2, h3, h4, h5, h6, h7⟩
      · refine .inl ⟨by simpa using h1, by simpa using h2, fun v hv => ?_⟩
        by_cases hk : v = k
        · subst hk; exact hs
        · exact h3 v (by omega)
      · refine .inr ⟨a, b, h1, by omega, by simpa using h3, by simpa using h4, h5, h6, fun v hv hv' => ?_⟩
        by_cases hk : v = k
        · subst hk; rw [hs] at hv'; cases hv'
        · exact h7 v (by omega) hv'
    · rcases ih with ⟨h1, h2, h3⟩ | ⟨a, b, h1, h2, h3, h4, h5, h6, h7⟩
      · refine .inr ⟨k, k, Nat.le_refl _, by omega, by simp [h1], by simp, hs, hs, fun v hv hv' => ?_⟩
        by_cases hk : v = k
        · omega
        · rw [h3 v (by omega)] at hv'; cases hv'
      · refine .inr ⟨a, k, by omega, by omega, ?_, by simp, h5, hs, fun v hv hv' => ?_⟩
        · rw [h3]; simp; omega
        · by_cases hk : v = k
          · omega
          · have := h7 v (by omega) hv'; omega
theorem suff_longer {p d s e lift way way' v : Int} (hw : way ≤ way') (h : suffB p d s e lift way v = true) : suffB p d s e lift way' v = true := by
  simp only [suffB, Bool.and_eq_true, decide_eq_true_eq] at h ⊢
  exact ⟨⟨h.1.1, by omega⟩, by omega⟩
def decOk (p d s e lift way : Int) : Bool := runB p d s e && inB lift 1 400 && inB way 0 10000000
def decR (p d s e lift way : Int) : Int × Int × Bool :=
  if decOk p d s e lift way then (if lowS p d s e lift way (lift.toNat + 1) < 0 then (0, 0, false) else (lowS p d s e lift way (lift.toNat + 1), highS p d s e lift way (lift.toNat + 1), true)) else (0, 0, false)
theorem decR_no {p d s e lift way : Int} (h : decOk p d s e lift way = false) : decR p d s e lift way = (0, 0, false) := by unfold decR; rw [h]; rfl
theorem decR_yes {p d s e lift way : Int} (h : decOk p d s e lift way = true) : decR p d s e lift way = (if lowS p d s e lift way (lift.toNat + 1) < 0 then (0, 0, false) else (lowS p d s e lift way (lift.toNat + 1), highS p d s e lift way (lift.toNat + 1), true)) := by unfold decR; rw [h]; rfl

end Go.Proofs.Ytkebjipmbgjilaa
