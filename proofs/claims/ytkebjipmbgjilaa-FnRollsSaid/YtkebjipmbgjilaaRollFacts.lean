/-
  Plain facts of rolls and stops: a later failure takes no more ticks; a roll is at least as far as the speed at its end; a stop from a greater speed is never shorter. No program here.
-/
import Derived.Test.YtkebjipmbgjilaaRunPure
namespace Go.Proofs.Ytkebjipmbgjilaa

theorem grow_pos {p d k : Int} (hp : 2 ≤ p ∧ p ≤ 9) (hd : 0 ≤ d ∧ d ≤ 1) (hk : 1 ≤ k ∧ k ≤ 4) : 1 ≤ grow p d k := by
  have h : k = 1 ∨ k = 2 ∨ k = 3 ∨ k = 4 := by omega
  unfold grow
  rcases h with h | h | h | h <;> subst h <;> split <;> omega
theorem grow_more {p d e : Int} (hp : 2 ≤ p ∧ p ≤ 9) (hd : 0 ≤ d ∧ d ≤ 1) (he : 2 ≤ e ∧ e ≤ 4) : grow p d (e - 1) ≤ grow p d e := by
  have h : e = 2 ∨ e = 3 ∨ e = 4 := by omega
  unfold grow
  rcases h with h | h | h <;> subst h <;> split <;> split <;> omega

/-- Where every tick's growth is positive the roll ends. -/
theorem roll_all {p d e fail lift : Int} (hu : ∀ s, 1 ≤ rollUp p d e fail s) : ∀ (n : Nat) (s f t : Int), lift - s ≤ n → (rollF p d e fail lift n s f t).2.2 = true ∧ t ≤ (rollF p d e fail lift n s f t).2.1 ∧ (0 ≤ s → s ≤ f → lift ≤ (rollF p d e fail lift n s f t).1) := by
  intro n
  induction n with
  | zero => intro s f t h; exact ⟨rfl, Int.le_refl _, fun h0 h1 => by simp only [rollF]; omega⟩
  | succ n ih =>
    intro s f t h
    by_cases hl : lift ≤ s
    · rw [roll_end hl]; exact ⟨rfl, Int.le_refl _, fun h0 h1 => by simp only; omega⟩
    · have hus := hu s
      simp only [rollF]
      rw [if_neg hl, if_neg (by omega)]
      obtain ⟨i1, i2, i3⟩ := ih (s + rollUp p d e fail s) (f + (s + rollUp p d e fail s)) (t + 1) (by omega)
      exact ⟨i1, by omega, fun h0 h1 => i3 (by omega) (by omega)⟩

theorem roll_ticks {p d e v v' lift : Int} (h1 : 1 ≤ grow p d (e - 1)) (h2 : grow p d (e - 1) ≤ grow p d e) (hv : v ≤ v') : ∀ (n m : Nat) (s s' f f' t : Int), lift - s ≤ n → lift - s' ≤ m → ((s = s' ∧ s < v) ∨ (v ≤ s ∧ s ≤ s')) →
    (rollF p d e v' lift m s' f' t).2.1 ≤ (rollF p d e v lift n s f t).2.1 := by
  have hu : ∀ s, 1 ≤ rollUp p d e v s := fun s => by unfold rollUp; split <;> omega
  intro n
  induction n with
  | zero =>
    intro m s s' f f' t hn hm hs
    rw [roll_end (s := s') (by omega), roll_end (s := s) (by omega)]
    exact Int.le_refl _
  | succ n ih =>
    intro m s s' f f' t hn hm hs
    by_cases hl : lift ≤ s'
    · rw [roll_end (s := s') hl]
      exact (roll_all hu (n + 1) s f t hn).2.1
    · cases m with
      | zero => omega
      | succ m =>
        have hus := hu s
        have hus' : 1 ≤ rollUp p d e v' s' := by unfold rollUp; split <;> omega
        simp only [rollF]
        rw [if_neg hl, if_neg (by omega), if_neg (by omega), if_neg (by omega)]
        refine ih m _ _ _ _ _ (by omega) (by omega) ?_
        rcases hs with ⟨rfl, hsv⟩ | ⟨hvs, hss⟩
        · rw [rollUp_all (fail := v) (by omega), rollUp_all (fail := v') (by omega)]
          by_cases hh : s + grow p d e < v
          · exact .inl ⟨rfl, hh⟩
          · exact .inr ⟨by omega, Int.le_refl _⟩
        · refine .inr ⟨by omega, ?_⟩
          rw [rollUp_less (fail := v) hvs]
          by_cases hh : v' ≤ s'
          · rw [rollUp_less hh]; omega
          · rw [rollUp_all hh]; omega

theorem brake_ge (st : Int) : ∀ (n : Nat) (s f : Int), f ≤ brakeF st n s f := by
  intro n
  induction n with
  | zero => intro s f; exact Int.le_refl _
  | succ n ih =>
    intro s f
    simp only [brakeF]
    split
    · exact Int.le_refl _
    · have := ih (less st s) (f + less st s)
      have h0 : 0 ≤ less st s := by unfold less; split <;> omega
      omega
theorem brake_mono {st : Int} (h1 : 1 ≤ st) : ∀ (n m : Nat) (s s' f f' : Int), s ≤ n → s' ≤ m → s ≤ s' → f ≤ f' → brakeF st n s f ≤ brakeF st m s' f' := by
  intro n
  induction n with
  | zero => intro m s s' f f' hn hm hs hf; have := brake_ge st m s' f'; simp only [brakeF] at *; omega
  | succ n ih =>
    intro m s s' f f' hn hm hs hf
    by_cases hz : s ≤ 0
    · rw [brake_end hz]; have := brake_ge st m s' f'; omega
    · cases m with
      | zero => omega
      | succ m =>
        simp only [brakeF]
        rw [if_neg hz, if_neg (by omega)]
        have hls : less st s ≤ less st s' := by unfold less; split <;> split <;> omega
        have b1 := less_bd h1 (show 0 < s by omega)
        have b2 := less_bd h1 (show 0 < s' by omega)
        exact ih m _ _ _ _ (by omega) (by omega) hls (by omega)

theorem stop_more {p d st e v : Int} (h1 : 1 ≤ grow p d (e - 1)) (h2 : 1 ≤ grow p d e) (h3 : grow p d (e - 1) ≤ 160) (h4 : grow p d e ≤ 160) (hst : 1 ≤ st) (hv : v ≤ 399) : ∀ (n m : Nat) (s f : Int), v - s ≤ n → v + 1 - s ≤ m → 0 ≤ s ∧ s ≤ 600 → 0 ≤ f →
    ((stopF p d st e v n s f).2 = true ∧ (stopF p d st e (v + 1) m s f).2 = true) ∧ (stopF p d st e v n s f).1 ≤ (stopF p d st e (v + 1) m s f).1 ∧ 0 < (stopF p d st e v n s f).1 := by
  have base : ∀ (n m : Nat) (s f : Int), v ≤ s → v + 1 - s ≤ m → 0 ≤ s ∧ s ≤ 600 → 0 ≤ f →
      ((stopF p d st e v n s f).2 = true ∧ (stopF p d st e (v + 1) m s f).2 = true) ∧ (stopF p d st e v n s f).1 ≤ (stopF p d st e (v + 1) m s f).1 ∧ 0 < (stopF p d st e v n s f).1 := by
    intro n m s f hs hm hs0 hf
    rw [stop_end hs]
    have hp := brake_ge st 2000 (s + grow p d (e - 1)) (f + (s + grow p d (e - 1)))
    by_cases hs1 : v + 1 ≤ s
    · rw [stop_end hs1]
      exact ⟨⟨rfl, rfl⟩, Int.le_refl _, by simp only; omega⟩
    · cases m with
      | zero => omega
      | succ m =>
        simp only [stopF]
        rw [if_neg hs1, if_neg (by omega), stop_end (by omega)]
        refine ⟨⟨by first | rfl | trivial, by first | rfl | trivial⟩, ?_, by omega⟩
        exact brake_mono hst _ _ _ _ _ _ (by omega) (by omega) (by omega) (by omega)
  intro n
  induction n with
  | zero => intro m s f hn hm hs0 hf; exact base 0 m s f (by omega) hm hs0 hf
  | succ n ih =>
    intro m s f hn hm hs0 hf
    by_cases hs : v ≤ s
    · exact base (n + 1) m s f hs hm hs0 hf
    · cases m with
      | zero => omega
      | succ m =>
        simp only [stopF]
        rw [if_neg hs, if_neg (by omega), if_neg (show ¬ v + 1 ≤ s by omega), if_neg (by omega)]
        exact ih m _ _ (by omega) (by omega) (by omega) (by omega)

/-- What the law of rolls asks of a drawn runner. -/
theorem rolls_law {p d s e lift v v' : Int} (hp : 2 ≤ p ∧ p ≤ 9) (hd : 0 ≤ d ∧ d ≤ 1) (hs : 1 ≤ s ∧ s ≤ 12) (he : 2 ≤ e ∧ e ≤ 4) (hl : 1 ≤ lift ∧ lift ≤ 120) (hv : 0 ≤ v ∧ v ≤ 120) (hv' : v ≤ v' ∧ v' ≤ 200) :
    runB p d s e = true ∧ ((rollR p d s e v lift).2.2 = true ∧ (rollR p d s e v' lift).2.2 = true) ∧ (rollR p d s e v' lift).2.1 ≤ (rollR p d s e v lift).2.1 ∧ lift ≤ (rollR p d s e v lift).1 ∧ lift ≤ (rollR p d s e v' lift).1 ∧
    ((stopR p d s e v).2 = true ∧ (stopR p d s e (v + 1)).2 = true) ∧ (stopR p d s e v).1 ≤ (stopR p d s e (v + 1)).1 ∧ 0 < (stopR p d s e v).1 := by
  have hr : runB p d s e = true := by simp only [runB, inB, Bool.and_eq_true, decide_eq_true_eq]; omega
  have g1 := grow_pos hp hd (k := e - 1) (by omega)
  have g2 := grow_pos hp hd (k := e) (by omega)
  have g3 := grow_more hp hd he
  have b1 := (grow_bd (p := p) (d := d) (k := e - 1) (by omega) (by omega) (by omega)).1
  have b2 := (grow_bd (p := p) (d := d) (k := e) (by omega) (by omega) (by omega)).1
  have hu : ∀ w x, 1 ≤ rollUp p d e w x := fun w x => by unfold rollUp; split <;> omega
  rw [rollR_yes (fail := v) (by simp [rollOk, hr, inB]; omega), rollR_yes (fail := v') (by simp [rollOk, hr, inB]; omega), stopR_yes (fail := v) (by simp [stopOk, hr, inB]; omega), stopR_yes (fail := v + 1) (by simp [stopOk, hr, inB]; omega)]
  have a1 := roll_all (hu v) (lift := lift) 400 0 0 0 (by omega)
  have a2 := roll_all (hu v') (lift := lift) 400 0 0 0 (by omega)
  have t1 := roll_ticks g1 g3 hv'.1 (lift := lift) 400 400 0 0 0 0 0 (by omega) (by omega) (by omega)
  have s1 := stop_more (st := s) (v := v) g1 g2 b1.2 b2.2 hs.1 (by omega) 400 400 0 0 (by omega) (by omega) (by omega) (by omega)
  exact ⟨hr, ⟨a1.1, a2.1⟩, t1, a1.2.2 (by omega) (by omega), a2.2.2 (by omega) (by omega), s1.1, s1.2.1, s1.2.2⟩

end Go.Proofs.Ytkebjipmbgjilaa
