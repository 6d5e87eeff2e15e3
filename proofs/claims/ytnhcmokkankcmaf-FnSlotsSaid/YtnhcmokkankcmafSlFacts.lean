/-
  Plain facts on plans of slots whose links are 1, 2 or 3: whose slot it is, its gap. No program here.
-/
import Derived.Test.YtnhcmokkankcmafBuGpI
namespace Go.Proofs.Ytnhcmokkankcmaf
open Go

structure SlPlan (gs : List Int) : Prop where
  l1 : 1 ≤ gs.length
  l2 : gs.length ≤ 20
  m : ∀ i, i < gs.length → 1 ≤ nth gs i ∧ nth gs i ≤ 3
theorem SlPlan.ok {gs : List Int} (h : SlPlan gs) : plB gs = true := by
  have h1 := h.l1
  have h2 := h.l2
  simp only [plB, Bool.and_eq_true]
  refine ⟨by simp [inB]; omega, ?_⟩
  refine decide_eq_true fun i hi => ?_
  have := h.m i hi
  simp [inB]; omega
theorem SlPlan.slot {gs : List Int} (h : SlPlan gs) {t : Int} (h0 : 0 ≤ t) (h1 : t ≤ 100000000) : slB16 gs t = true ∧ slR16 gs t = nth gs (t % (gs.length : Int)).toNat := by
  have hb : slB16 gs t = true := by simp [slB16, h.ok, inB]; omega
  exact ⟨hb, by simp [slR16, hb]⟩
theorem SlPlan.at_ {gs : List Int} (h : SlPlan gs) (t : Nat) (h1 : t ≤ 100000000) : slB16 gs (t : Int) = true ∧ slR16 gs (t : Int) = nth gs (t % gs.length) := by
  have := h.slot (t := (t : Int)) (by omega) (by omega)
  refine ⟨this.1, this.2.trans ?_⟩
  congr 1
theorem SlPlan.gap {gs : List Int} (h : SlPlan gs) {i : Nat} (hi : i < gs.length) : gpB gs (nth gs i) = true ∧ (1 ≤ gpR gs (nth gs i) ∧ gpR gs (nth gs i) ≤ gs.length) ∧ ∃ d : Nat, 1 ≤ d ∧ (d : Int) ≤ gpR gs (nth gs i) ∧ nth gs ((i + d) % gs.length) = nth gs i := by
  have hm := h.m i hi
  have hl := h.l1
  have hv : (plB gs && !(nth gs i == 0)) = true := by simp [h.ok]; omega
  have y := gp_yes hv
  have lo := gpK_lower (gs := gs) (link := nth gs i) (i := i) rfl gs.length hi
  have bd := gpK_bd gs (nth gs i) hl gs.length
  have dp : 1 ≤ gpD gs (nth gs i) i := by unfold gpD; omega
  refine ⟨by rw [y.2]; exact decide_eq_true (by omega), by rw [y.1]; omega, gpD gs (nth gs i) i, dp, by rw [y.1]; exact lo, ?_⟩
  unfold gpD
  have hex : ∃ d, d < gs.length ∧ nth gs ((i + (d + 1)) % gs.length) = nth gs i := ⟨gs.length - 1, by omega, by rw [show i + (gs.length - 1 + 1) = i + gs.length by omega, Nat.add_mod_right, Nat.mod_eq_of_lt hi]⟩
  cases e : (List.range gs.length).find? (fun d => nth gs ((i + (d + 1)) % gs.length) == nth gs i) with
  | none =>
    exfalso
    rw [List.find?_eq_none] at e
    obtain ⟨d, hd, hq⟩ := hex
    exact e d (by simpa using hd) (by simpa using hq)
  | some d =>
    rw [List.find?_range_eq_some] at e
    simpa using e.1
theorem SlPlan.none {gs : List Int} (h : SlPlan gs) : gpB gs 9 = false := by
  have hn : ∀ j, j < gs.length → ¬ nth gs j = 9 := fun j hj => by have := h.m j hj; omega
  have hv : (plB gs && !((9 : Int) == 0)) = true := by simp [h.ok]
  rw [(gp_yes hv).2, gpK_none hn gs.length (Nat.le_refl _)]
  rfl
/-- The plan that is drawn. -/
def slG (f : Nat → Int) (k : Nat) : List Int := (List.range k).map fun i => 1 + f (i + 1) % 3
theorem slG_len (f : Nat → Int) (k : Nat) : (slG f k).length = k := by simp [slG]
theorem slG_succ (f : Nat → Int) (k : Nat) : slG f (k + 1) = slG f k ++ [1 + f (k + 1) % 3] := by simp [slG, List.range_succ]
theorem slG_plan {f : Nat → Int} {k : Nat} (h1 : 1 ≤ k) (h2 : k ≤ 20) : SlPlan (slG f k) :=
  ⟨by rw [slG_len]; exact h1, by rw [slG_len]; exact h2, fun i hi => by
    rw [slG_len] at hi
    have e : nth (slG f k) i = 1 + f (i + 1) % 3 := by simp [nth, slG, hi]
    rw [e]; omega⟩

end Go.Proofs.Ytnhcmokkankcmaf
