/-
  Whole complex roots are zeros of the polynomial that is made from them, in whole numbers and so in floats. No program here.
-/
import Derived.Test.YtomcbbpaajpeiaaSizFact
namespace Go.Proofs.Ytomcbbpaajpeiaa
open Go

def gm (a b : Int × Int) : Int × Int := (a.1 * b.1 - a.2 * b.2, a.1 * b.2 + a.2 * b.1)
def gs (a b : Int × Int) : Int × Int := (a.1 - b.1, a.2 - b.2)
def ga (a b : Int × Int) : Int × Int := (a.1 + b.1, a.2 + b.2)
theorem pair_eq {a b : Int × Int} (h1 : a.1 = b.1) (h2 : a.2 = b.2) : a = b := by
  cases a; cases b; simp only at h1 h2; rw [h1, h2]
theorem gm_swap (h r z : Int × Int) : gm (gm h r) z = gm (gm h z) r := by
  have e1 : z.1 * r.1 = r.1 * z.1 := Int.mul_comm _ _
  have e2 : z.2 * r.1 = r.1 * z.2 := Int.mul_comm _ _
  have e3 : z.1 * r.2 = r.2 * z.1 := Int.mul_comm _ _
  have e4 : z.2 * r.2 = r.2 * z.2 := Int.mul_comm _ _
  apply pair_eq
  · simp only [gm, Int.sub_mul, Int.add_mul, Int.mul_assoc, e1, e2, e3, e4]; omega
  · simp only [gm, Int.sub_mul, Int.add_mul, Int.mul_assoc, e1, e2, e3, e4]; omega
theorem gm_gs (a b z : Int × Int) : gm (gs a b) z = gs (gm a z) (gm b z) := by
  apply pair_eq
  · simp only [gm, gs, Int.sub_mul]; omega
  · simp only [gm, gs, Int.sub_mul]; omega
theorem gm_ga (a b z : Int × Int) : gm (ga a b) z = ga (gm a z) (gm b z) := by
  apply pair_eq
  · simp only [gm, ga, Int.add_mul]; omega
  · simp only [gm, ga, Int.add_mul]; omega
theorem gm_none (z : Int × Int) : gm (0, 0) z = (0, 0) := by simp [gm]
theorem ga_none (z : Int × Int) : ga z (0, 0) = z := by simp [ga]
theorem ga_none' (z : Int × Int) : ga (0, 0) z = z := by simp [ga]
theorem gs_self (z : Int × Int) : gs z z = (0, 0) := by simp [gs]
theorem gs_none (z : Int × Int) : gs z (0, 0) = z := by simp [gs]
theorem ga_gs (a b c d : Int × Int) : ga (gs a b) (gs c d) = gs (ga a c) (ga b d) := by
  apply pair_eq
  · simp only [ga, gs]; omega
  · simp only [ga, gs]; omega
/-- The coefficients. -/
def cz (r : Nat → Int × Int) : Nat → Nat → Int × Int
  | 0, 0 => (1, 0)
  | 0, _ + 1 => (0, 0)
  | k + 1, 0 => cz r k 0
  | k + 1, i + 1 => gs (cz r k (i + 1)) (gm (cz r k i) (r k))
theorem cz_succ (r : Nat → Int × Int) (k i : Nat) : cz r (k + 1) (i + 1) = gs (cz r k (i + 1)) (gm (cz r k i) (r k)) := rfl
theorem cz_first (r : Nat → Int × Int) : ∀ k, cz r k 0 = (1, 0)
  | 0 => rfl
  | k + 1 => cz_first r k
theorem cz_out (r : Nat → Int × Int) : ∀ k i, k < i → cz r k i = (0, 0)
  | 0, 0, h => by omega
  | 0, _ + 1, _ => rfl
  | k + 1, 0, h => by omega
  | k + 1, i + 1, h => by rw [cz_succ, cz_out r k (i + 1) (by omega), cz_out r k i (by omega), gm_none, gs_self]
/-- The value, step by step. -/
def hz (c : Nat → Int × Int) (z : Int × Int) : Nat → Int × Int
  | 0 => (0, 0)
  | j + 1 => ga (gm (hz c z j) z) (c j)
theorem hz_succ (c : Nat → Int × Int) (z : Int × Int) (j : Nat) : hz c z (j + 1) = ga (gm (hz c z j) z) (c j) := rfl
theorem hz_next (r : Nat → Int × Int) (z : Int × Int) (k : Nat) : ∀ j, hz (cz r (k + 1)) z (j + 1) = gs (hz (cz r k) z (j + 1)) (gm (hz (cz r k) z j) (r k))
  | 0 => by
    rw [hz_succ, hz_succ]
    show ga (gm (0, 0) z) (cz r k 0) = gs (ga (gm (0, 0) z) (cz r k 0)) (gm (0, 0) (r k))
    rw [gm_none, gm_none, ga_none', gs_none]
  | j + 1 => by
    rw [hz_succ (cz r (k + 1)), hz_next r z k j, gm_gs, cz_succ, ga_gs, ← hz_succ, gm_swap, ← gm_ga, ← hz_succ]
theorem hz_root (r : Nat → Int × Int) : ∀ n i, i < n → hz (cz r n) (r i) (n + 1) = (0, 0)
  | 0, i, h => by omega
  | n + 1, i, h => by
    rw [hz_next, hz_succ (cz r n) (r i) (n + 1), cz_out r n (n + 1) (by omega), ga_none]
    by_cases e : i = n
    · rw [e, gs_self]
    · rw [hz_root r n i (by omega), gm_none, gm_none, gs_self]
/-- Both parts are at most B. -/
def Bd (B : Int) (a : Int × Int) : Prop := (-B ≤ a.1 ∧ a.1 ≤ B) ∧ -B ≤ a.2 ∧ a.2 ≤ B
theorem bd_gm {B : Int} {a z : Int × Int} (ha : Bd B a) (hz : Bd 3 z) (hB : 0 ≤ B) : Bd (6 * B) (gm a z) := by
  have p1 := pb ha.1 hz.1 hB (by omega)
  have p2 := pb ha.2 hz.2 hB (by omega)
  have p3 := pb ha.1 hz.2 hB (by omega)
  have p4 := pb ha.2 hz.1 hB (by omega)
  unfold Bd gm
  simp only
  omega
theorem bd_cz {r : Nat → Int × Int} {n : Nat} (hr : ∀ k, k < n → Bd 3 (r k)) : ∀ k, k ≤ n → ∀ i, Bd (7 ^ k) (cz r k i)
  | 0, _, 0 => by unfold Bd cz; decide
  | 0, _, _ + 1 => by unfold Bd cz; decide
  | k + 1, h, 0 => by
    rw [cz_first]
    have : (0 : Int) < 7 ^ (k + 1) := Int.pow_pos (by omega)
    unfold Bd
    simp only
    omega
  | k + 1, h, i + 1 => by
    have hp : (0 : Int) < 7 ^ k := Int.pow_pos (by omega)
    have h1 := bd_cz hr k (by omega) (i + 1)
    have h2 := bd_gm (bd_cz hr k (by omega) i) (hr k (by omega)) (by omega)
    rw [cz_succ, Int.pow_succ]
    unfold Bd gs at *
    simp only
    omega
theorem bd_hz {c : Nat → Int × Int} {z : Int × Int} (hc : ∀ i, Bd 16807 (c i)) (hb : Bd 3 z) : ∀ j, Bd (16807 * 7 ^ j) (hz c z j)
  | 0 => by unfold Bd hz; simp
  | j + 1 => by
    have hp : (0 : Int) < 7 ^ j := Int.pow_pos (by omega)
    have h1 := bd_gm (bd_hz hc hb j) hb (by omega)
    have h2 := hc j
    rw [hz_succ, Int.pow_succ]
    unfold Bd ga at *
    simp only
    omega

/-! The same in floats. -/
theorem wide_fit {n : Int} (h : -1000000000000 ≤ n ∧ n ≤ 1000000000000) : n.natAbs < 2 ^ 53 := by
  have : (2 : Nat) ^ 53 = 9007199254740992 := by decide
  omega
/-- The floats stand for the whole complex number. -/
def Gv (x y : Nat) (a : Int × Int) : Prop := Iv x a.1 ∧ Iv y a.2
theorem gv_times {a b c d : Nat} {p z : Int × Int} {A : Int} (h : Gv a b p) (k : Gv c d z) (h1 : Bd A p) (h2 : Bd 3 z) (hA : 0 ≤ A ∧ A ≤ 100000000000) : Gv (tRe a b c d) (tIm a b c d) (gm p z) := by
  have p1 := pb h1.1 h2.1 hA.1 (by omega)
  have p2 := pb h1.2 h2.2 hA.1 (by omega)
  have p3 := pb h1.1 h2.2 hA.1 (by omega)
  have p4 := pb h1.2 h2.1 hA.1 (by omega)
  exact ⟨iv_sub (iv_mul h.1 k.1 (wide_fit (by omega))) (iv_mul h.2 k.2 (wide_fit (by omega))) (wide_fit (by omega)), iv_add (iv_mul h.1 k.2 (wide_fit (by omega))) (iv_mul h.2 k.1 (wide_fit (by omega))) (wide_fit (by omega))⟩
theorem seven_le {k : Nat} (h : k ≤ 6) : (7 : Int) ^ k ≤ 117649 := by
  rcases (show k = 0 ∨ k = 1 ∨ k = 2 ∨ k = 3 ∨ k = 4 ∨ k = 5 ∨ k = 6 by omega) with rfl | rfl | rfl | rfl | rfl | rfl | rfl <;> decide
theorem seven_le5 {k : Nat} (h : k ≤ 5) : (7 : Int) ^ k ≤ 16807 := by
  rcases (show k = 0 ∨ k = 1 ∨ k = 2 ∨ k = 3 ∨ k = 4 ∨ k = 5 by omega) with rfl | rfl | rfl | rfl | rfl | rfl <;> decide
theorem gv_from {ps : List (Nat × Nat)} {r : Nat → Int × Int} {n : Nat} (hn : n ≤ 5) (hr : ∀ k, k < n → Bd 3 (r k)) (hv : ∀ k, k < n → Gv (reAt ps k) (imAt ps k) (r k)) : ∀ k, k ≤ n → ∀ i, Gv (reAt (fromL ps k) i) (imAt (fromL ps k) i) (cz r k i)
  | 0, _, 0 => ⟨iv_one, iv_zero⟩
  | 0, _, i + 1 => by
    obtain ⟨e1, e2⟩ := at_out (l := fromL ps 0) (i := i + 1) (by rw [fromL_len]; omega)
    rw [e1, e2]
    exact ⟨iv_zero, iv_zero⟩
  | k + 1, h, i => by
    by_cases hi : i ≤ k + 1
    · have e := nextL_at (fromL ps k) (reAt ps k) (imAt ps k) i (by rw [fromL_len]; exact hi)
      show Gv (reAt (nextL (fromL ps k) (reAt ps k) (imAt ps k)) i) (imAt (nextL (fromL ps k) (reAt ps k) (imAt ps k)) i) _
      rw [e.1, e.2]
      cases i with
      | zero => exact gv_from hn hr hv k (by omega) 0
      | succ i =>
        have g1 := gv_from hn hr hv k (by omega) (i + 1)
        have g2 := gv_from hn hr hv k (by omega) i
        have hp : (0 : Int) < 7 ^ k := Int.pow_pos (by omega)
        have hp5 := seven_le5 (k := k) (by omega)
        have b1 := bd_cz hr k (by omega) (i + 1)
        have b2 := bd_cz hr k (by omega) i
        have g3 := gv_times g2 (hv k (by omega)) b2 (hr k (by omega)) (by omega)
        have b3 := bd_gm b2 (hr k (by omega)) (by omega)
        rw [cz_succ]
        unfold Bd at b1 b3
        exact ⟨iv_sub g1.1 g3.1 (wide_fit (by omega)), iv_sub g1.2 g3.2 (wide_fit (by omega))⟩
    · obtain ⟨e1, e2⟩ := at_out (l := fromL ps (k + 1)) (i := i) (by rw [fromL_len]; omega)
      rw [e1, e2, cz_out r (k + 1) i (by omega)]
      exact ⟨iv_zero, iv_zero⟩
theorem gv_poly {ls : List (Nat × Nat)} {c : Nat → Int × Int} {x y : Nat} {z : Int × Int} (hl : ∀ i, Gv (reAt ls i) (imAt ls i) (c i)) (hc : ∀ i, Bd 16807 (c i)) (hv : Gv x y z) (hb : Bd 3 z) : ∀ j, j ≤ 6 → Gv (polyRe ls x y j).1 (polyRe ls x y j).2 (hz c z j)
  | 0, _ => ⟨iv_zero, iv_zero⟩
  | j + 1, h => by
    have g := gv_poly hl hc hv hb j (by omega)
    have hp : (0 : Int) < 7 ^ j := Int.pow_pos (by omega)
    have h6 := seven_le (k := j) (by omega)
    have b1 := bd_hz hc hb j
    have g3 := gv_times g hv b1 hb (by omega)
    have b3 := bd_gm b1 hb (by omega)
    have b4 := hc j
    have g4 := hl j
    rw [hz_succ]
    unfold Bd at b3 b4
    exact ⟨iv_add g3.1 g4.1 (wide_fit (by omega)), iv_add g3.2 g4.2 (wide_fit (by omega))⟩
/-- Each root is a zero. -/
theorem poly_zero {ps q : List (Nat × Nat)} {r : Nat → Int × Int} {n : Nat} (hn : n ≤ 5) (hl : ps.length = n) (hr : ∀ k, k < n → Bd 3 (r k)) (hv : ∀ k, k < n → Gv (reAt ps k) (imAt ps k) (r k)) (hq : AlikeL q (fromR ps)) :
    q.length = n + 1 ∧ (Iv (reAt q 0) 1 ∧ Iv (imAt q 0) 0) ∧ ∀ i, i < n → polyB q = true ∧ Iv (polyX q (reAt ps i) (imAt ps i)) 0 ∧ Iv (polyY q (reAt ps i) (imAt ps i)) 0 := by
  have hb : fromB ps = true := decide_eq_true (by omega)
  have hR : fromR ps = fromL ps n := by unfold fromR; rw [hb, hl]; rfl
  have hlen : q.length = n + 1 := by rw [hq.len, hR, fromL_len]
  have gq : ∀ i, Gv (reAt q i) (imAt q i) (cz r n i) := fun i => by
    have g := gv_from hn hr hv n (Nat.le_refl _) i
    have h1 := hq.re i
    have h2 := hq.im i
    rw [hR] at h1 h2
    exact ⟨iv_alike g.1 h1, iv_alike g.2 h2⟩
  refine ⟨hlen, by have := gq 0; rw [cz_first] at this; exact this, fun i hi => ?_⟩
  have hpb : polyB q = true := decide_eq_true (by omega)
  have h5 := seven_le5 (k := n) hn
  have hc : ∀ i, Bd 16807 (cz r n i) := fun i => by
    have := bd_cz hr n (Nat.le_refl _) i
    unfold Bd at this ⊢
    omega
  have g := gv_poly gq hc (hv i hi) (hr i hi) (n + 1) (by omega)
  rw [hz_root r n i hi] at g
  refine ⟨hpb, ?_, ?_⟩
  · unfold polyX; rw [hpb, hlen]; exact g.1
  · unfold polyY; rw [hpb, hlen]; exact g.2

end Go.Proofs.Ytomcbbpaajpeiaa
