/-
  A battery lasts at least as long with less drawn, and a pump that is wanted and leaks little builds up: in plain numbers. No program here.
-/
import Derived.Test.YtdeodlinjilehacLastPure
namespace Go.Proofs.Ytdeodlinjilehac
open Go

theorem nth_cons (d : Int) (ds : List Int) (j : Nat) : nth (d :: ds) (j + 1) = nth ds j := by simp [nth]
theorem lastR_bd {m l : Int} (zs : List Int) : ∀ (k : Nat) (c : Int), k ≤ (lastR m l zs k c).1 ∧ (lastR m l zs k c).1 ≤ k + zs.length ∧ (0 ≤ c → c ≤ m → 0 ≤ (lastR m l zs k c).2 ∧ (lastR m l zs k c).2 ≤ m) := by
  induction zs with
  | nil => intro k c; exact ⟨Nat.le_refl _, Nat.le_refl _, fun h1 h2 => ⟨h1, h2⟩⟩
  | cons d ds ih =>
    intro k c
    by_cases h : min m (c - d - l) < 0
    · rw [lastR, if_pos h]; exact ⟨Nat.le_refl _, by simp, fun h1 h2 => ⟨h1, h2⟩⟩
    · rw [lastR, if_neg h]
      obtain ⟨h1, h2, h3⟩ := ih (k + 1) (min m (c - d - l))
      exact ⟨by omega, by simp only [List.length_cons]; omega, fun _ _ => h3 (by omega) (by omega)⟩
theorem lastR_mono {m l : Int} (D : List Int) : ∀ (L : List Int) (k : Nat) (c c' : Int), D.length = L.length → (∀ j, nth L j ≤ nth D j) → c ≤ c' →
    (lastR m l D k c).1 ≤ (lastR m l L k c').1 ∧ ((lastR m l D k c).1 = (lastR m l L k c').1 → (lastR m l D k c).2 ≤ (lastR m l L k c').2) := by
  induction D with
  | nil =>
    intro L k c c' hl _ hc
    obtain rfl : L = [] := List.length_eq_zero_iff.1 hl.symm
    exact ⟨Nat.le_refl _, fun _ => hc⟩
  | cons d ds ih =>
    intro L k c c' hl hj hc
    cases L with
    | nil => simp at hl
    | cons e es =>
      have h0 : e ≤ d := by simpa [nth] using hj 0
      by_cases h : min m (c - d - l) < 0
      · rw [lastR, if_pos h]
        by_cases h' : min m (c' - e - l) < 0
        · rw [lastR, if_pos h']; exact ⟨Nat.le_refl _, fun _ => hc⟩
        · rw [lastR, if_neg h']
          have := (lastR_bd (m := m) (l := l) es (k + 1) (min m (c' - e - l))).1
          refine ⟨by omega, fun h => ?_⟩
          simp only at h
          omega
      · have h' : ¬ min m (c' - e - l) < 0 := by omega
        rw [lastR, if_neg h, lastR, if_neg h']
        exact ih es (k + 1) _ _ (by simpa using hl) (fun j => by rw [← nth_cons e es j, ← nth_cons d ds j]; exact hj (j + 1)) (by omega)

/-- What the law asks of both answers. -/
structure BatSay (x l : Int) (D L : List Int) : Prop where
  ok : lastB x 255 l D = true
  fine : lastB x 255 l L = true
  le : (lastT x 255 l D).1 ≤ (lastT x 255 l L).1
  pos : 0 ≤ (lastT x 255 l D).1
  len : (lastT x 255 l D).1 ≤ D.length
  cpos : 0 ≤ (lastT x 255 l D).2
  most : (lastT x 255 l D).2 ≤ 255
  mpos : 0 ≤ (lastT x 255 l L).2
  more : (lastT x 255 l D).1 = (lastT x 255 l L).1 → (lastT x 255 l D).2 ≤ (lastT x 255 l L).2
theorem bat_say {x l : Int} {D L : List Int} (hx : 0 ≤ x ∧ x ≤ 255) (hl : 0 ≤ l ∧ l ≤ 3) (hn : D.length ≤ 300) (hh : L.length = D.length)
    (hd : ∀ j, j < D.length → (-8 ≤ nth D j ∧ nth D j ≤ 31) ∧ (nth D j - 4 ≤ nth L j ∧ nth L j ≤ nth D j)) : BatSay x l D L := by
  have hall : ∀ j, nth L j ≤ nth D j := fun j => by
    by_cases h : j < D.length
    · exact (hd j h).2.2
    · simp [nth, List.getElem?_eq_none (show D.length ≤ j by omega), List.getElem?_eq_none (show L.length ≤ j by omega)]
  have b := batB_mk (c := x) (m := 255) (l := l) (by omega)
  have aD : allB D (-100000) 100000 = true := decide_eq_true fun j hj => by have := hd j hj; simp [inB]; omega
  have aL : allB L (-100000) 100000 = true := decide_eq_true fun j hj => by have := hd j (by omega); simp [inB]; omega
  have oD := lastB_true b (by omega) aD
  have oL := lastB_true b (by omega) aL
  obtain ⟨m1, m2⟩ := lastR_mono (m := 255) (l := l) D L 0 x x hh.symm hall (Int.le_refl _)
  obtain ⟨d1, d2, d3⟩ := lastR_bd (m := 255) (l := l) D 0 x
  obtain ⟨e1, e2, e3⟩ := lastR_bd (m := 255) (l := l) L 0 x
  have d3 := d3 hx.1 hx.2
  have e3 := e3 hx.1 hx.2
  refine ⟨oD, oL, ?_, ?_, ?_, ?_, ?_, ?_, ?_⟩
  all_goals
    first | rw [lastT_yes oD, lastT_yes oL] | rw [lastT_yes oD] | rw [lastT_yes oL]
    simp only
    first | omega | exact fun h => m2 (by omega)

theorem pump_up {s p k : Int} (hs : s = 0 ∨ s = 1) (hp : 900 ≤ p ∧ p ≤ 5000) (hk : 0 ≤ k ∧ k ≤ 99) :
    pumpB s p 0 k = true ∧ ∃ q, pumpT s p 0 true k = (1, q, 0) ∧ p ≤ q ∧ 900 ≤ q ∧ q ≤ 5000 := by
  have hb : pumpB s p 0 k = true := pumpB_yes (by omega)
  refine ⟨hb, max 0 (min 5000 (p + (200 - k))), ?_, by omega, by omega, by omega⟩
  have h2 : ¬ s = 2 := by omega
  have h3 : ¬ max 0 (min 5000 (p + (200 - k))) < 1000 := by omega
  simp only [pumpT, hb, if_true, pumpN, pumpP, if_neg h2, if_neg h3]
theorem pump_off {s p : Int} (hs : s = 0 ∨ s = 1) (hp : 900 ≤ p ∧ p ≤ 5000) :
    pumpB s p 0 10 = true ∧ ∃ q, pumpT s p 0 false 10 = (0, q, 0) := by
  have hb : pumpB s p 0 10 = true := pumpB_yes (by omega)
  have h2 : ¬ s = 2 := by omega
  exact ⟨hb, _, by simp only [pumpT, hb, if_true, pumpN, if_neg h2]; rfl⟩

end Go.Proofs.Ytdeodlinjilehac
