/-
  Ticks without a drift: a heading comes nearer by three until it is there; an armed course near by is captured and held. No program here.
-/
import Derived.Test.YtfahhjgpgccdhadTkPure
namespace Go.Proofs.Ytfahhjgpgccdhad
open Go.RowKit

/-- How far a heading is from another one, the shorter way. -/
def dst (a b : Int) : Int := if 180 < (b - a) % 360 then 360 - (b - a) % 360 else (b - a) % 360
theorem dst_le (a b : Int) : 0 ≤ dst a b ∧ dst a b ≤ 180 := by unfold dst; split <;> omega
theorem dst_zero {a b : Int} (ha : 0 ≤ a ∧ a ≤ 359) (hb : 0 ≤ b ∧ b ≤ 359) (h : dst a b = 0) : a = b := by
  unfold dst at h; split at h <;> omega
theorem turn_dst {a b : Int} (ha : 0 ≤ a ∧ a ≤ 359) (hb : 0 ≤ b ∧ b ≤ 359) : (0 ≤ turnR a b ∧ turnR a b ≤ 359) ∧ dst (turnR a b) b = max 0 (dst a b - 3) := by
  rcases (show b - a < -180 ∨ (-180 ≤ b - a ∧ b - a < 0) ∨ (0 ≤ b - a ∧ b - a ≤ 180) ∨ 180 < b - a by omega) with h | h | h | h
  · have e : (b - a) % 360 = b - a + 360 := by omega
    have hT : turnR a b = (a + min 3 (b - a + 360)) % 360 := by rw [turnR, e, if_neg (by omega)]
    have hD : dst a b = b - a + 360 := by rw [dst, e, if_neg (by omega)]
    rw [hD]
    generalize turnR a b = T at *
    refine ⟨by omega, ?_⟩
    unfold dst; split <;> omega
  · have e : (b - a) % 360 = b - a + 360 := by omega
    by_cases h1 : 180 < b - a + 360
    · have hT : turnR a b = (a - min 3 (360 - (b - a + 360))) % 360 := by rw [turnR, e, if_pos h1]
      have hD : dst a b = 360 - (b - a + 360) := by rw [dst, e, if_pos h1]
      rw [hD]
      generalize turnR a b = T at *
      refine ⟨by omega, ?_⟩
      unfold dst; split <;> omega
    · have hT : turnR a b = (a + min 3 (b - a + 360)) % 360 := by rw [turnR, e, if_neg h1]
      have hD : dst a b = b - a + 360 := by rw [dst, e, if_neg h1]
      rw [hD]
      generalize turnR a b = T at *
      refine ⟨by omega, ?_⟩
      unfold dst; split <;> omega
  · have e : (b - a) % 360 = b - a := by omega
    have hT : turnR a b = (a + min 3 (b - a)) % 360 := by rw [turnR, e, if_neg (by omega)]
    have hD : dst a b = b - a := by rw [dst, e, if_neg (by omega)]
    rw [hD]
    generalize turnR a b = T at *
    refine ⟨by omega, ?_⟩
    unfold dst; split <;> omega
  · have e : (b - a) % 360 = b - a := by omega
    have hT : turnR a b = (a - min 3 (360 - (b - a))) % 360 := by rw [turnR, e, if_pos (by omega)]
    have hD : dst a b = 360 - (b - a) := by rw [dst, e, if_pos (by omega)]
    rw [hD]
    generalize turnR a b = T at *
    refine ⟨by omega, ?_⟩
    unfold dst; split <;> omega
theorem vt_zero : vtT 0 0 0 0 = (0, 0, 0) := by decide
theorem tick_head {a b o : Int} (ha : 0 ≤ a ∧ a ≤ 359) (hb : 0 ≤ b ∧ b ≤ 359) (ho : 0 ≤ o ∧ o ≤ 100) : tickP ⟨0, 1, 0, 0, 0, a, b, o, false⟩ 0 = ⟨0, 1, 0, 0, 0, turnR a b, b, o, false⟩ := by
  have hk : okT ⟨0, 1, 0, 0, 0, a, b, o, false⟩ 0 = true := by simp [okT, apOk, inB]; omega
  have e : offR o 0 = o := by unfold offR; omega
  simp [tickP, hk, vt_zero, ltT, e]
theorem tk_head {a b o : Int} {zs : List Int} (hz : ∀ k, nth zs k = 0) (ha : 0 ≤ a ∧ a ≤ 359) (hb : 0 ≤ b ∧ b ≤ 359) (ho : 0 ≤ o ∧ o ≤ 100) : ∀ k : Nat, ∃ h : Int, tkP ⟨0, 1, 0, 0, 0, a, b, o, false⟩ zs k = ⟨0, 1, 0, 0, 0, h, b, o, false⟩ ∧ (0 ≤ h ∧ h ≤ 359) ∧ dst h b = max 0 (dst a b - 3 * k) := by
  intro k
  induction k with
  | zero => exact ⟨a, rfl, ha, by have := dst_le a b; omega⟩
  | succ k ih =>
    obtain ⟨h, e, hb1, hd⟩ := ih
    obtain ⟨t1, t2⟩ := turn_dst hb1 hb
    refine ⟨turnR h b, ?_, t1, ?_⟩
    · rw [tkP, e, hz, tick_head hb1 hb ho]
    · rw [t2, hd]; omega
/-- It is there once three times the ticks are as many. -/
theorem tk_there {a b o : Int} {zs : List Int} (hz : ∀ k, nth zs k = 0) (ha : 0 ≤ a ∧ a ≤ 359) (hb : 0 ≤ b ∧ b ≤ 359) (ho : 0 ≤ o ∧ o ≤ 100) (k : Nat) (hk : dst a b ≤ 3 * k) : (tkP ⟨0, 1, 0, 0, 0, a, b, o, false⟩ zs k).a5 = b := by
  obtain ⟨h, e, hb1, hd⟩ := tk_head hz ha hb ho k
  rw [e]
  have hd0 : dst h b = 0 := by omega
  exact dst_zero hb1 hb hd0
theorem tick_arm {a b o : Int} (ha : 0 ≤ a ∧ a ≤ 359) (hb : 0 ≤ b ∧ b ≤ 359) (ho : 0 ≤ o ∧ o ≤ 50) : tickP ⟨0, 1, 0, 0, 0, a, b, o, true⟩ 0 = ⟨0, 3, 0, 0, 0, turnR a b, b, o, false⟩ := by
  have hk : okT ⟨0, 1, 0, 0, 0, a, b, o, true⟩ 0 = true := by simp [okT, apOk, inB]; omega
  have e : offR o 0 = o := by unfold offR; omega
  have h5 : (o.natAbs : Int) ≤ 50 := by omega
  simp [tickP, hk, vt_zero, ltT, e, h5]
theorem tick_cap {a b o : Int} (ha : 0 ≤ a ∧ a ≤ 359) (hb : 0 ≤ b ∧ b ≤ 359) (ho : 0 < o ∧ o ≤ 50) : tickP ⟨0, 3, 0, 0, 0, a, b, o, false⟩ 0 = if o ≤ 10 then ⟨0, 2, 0, 0, 0, a, b, 0, false⟩ else ⟨0, 3, 0, 0, 0, a, b, o - 10, false⟩ := by
  have hk : okT ⟨0, 3, 0, 0, 0, a, b, o, false⟩ 0 = true := by simp [okT, apOk, inB]; omega
  have e : offR o 0 = o := by unfold offR; omega
  have ht : tow o 0 10 = max 0 (o - 10) := by unfold tow; rw [if_neg (by omega)]
  by_cases h : o ≤ 10
  · have h0 : tow o 0 10 = 0 := by omega
    simp [tickP, hk, vt_zero, ltT, e, h0, h]
  · have h0 : ¬ tow o 0 10 = 0 := by omega
    have h1 : tow o 0 10 = o - 10 := by omega
    have h2 : ¬ o - 10 = 0 := by omega
    simp [tickP, hk, vt_zero, ltT, e, h1, h2, h]
theorem tick_on {a b : Int} (ha : 0 ≤ a ∧ a ≤ 359) (hb : 0 ≤ b ∧ b ≤ 359) : tickP ⟨0, 2, 0, 0, 0, a, b, 0, false⟩ 0 = ⟨0, 2, 0, 0, 0, a, b, 0, false⟩ := by
  have hk : okT ⟨0, 2, 0, 0, 0, a, b, 0, false⟩ 0 = true := by simp [okT, apOk, inB]; omega
  have e : offR 0 0 = 0 := by decide
  simp [tickP, hk, vt_zero, ltT, e]
/-- An armed course, near by: captured in the first tick, then held. -/
theorem tk_arm {a b o : Int} {zs : List Int} (hz : ∀ k, nth zs k = 0) (ha : 0 ≤ a ∧ a ≤ 359) (hb : 0 ≤ b ∧ b ≤ 359) (ho : 0 < o ∧ o ≤ 50) : ∀ k : Nat, ∃ (l h q : Int), tkP ⟨0, 1, 0, 0, 0, a, b, o, true⟩ zs (k + 1) = ⟨0, l, 0, 0, 0, h, b, q, false⟩ ∧ (0 ≤ h ∧ h ≤ 359) ∧ ((l = 3 ∧ 0 < q ∧ q ≤ 50 - 10 * k ∧ (k = 0 → q = o)) ∨ (l = 2 ∧ q = 0 ∧ 1 ≤ k)) := by
  intro k
  induction k with
  | zero =>
    have e : tkP ⟨0, 1, 0, 0, 0, a, b, o, true⟩ zs 1 = tickP ⟨0, 1, 0, 0, 0, a, b, o, true⟩ (nth zs 0) := rfl
    exact ⟨3, turnR a b, o, by rw [e, hz, tick_arm ha hb (by omega)], (turn_dst ha hb).1, .inl ⟨rfl, ho.1, by omega, fun _ => rfl⟩⟩
  | succ k ih =>
    obtain ⟨l, h, q, e, hh, hc⟩ := ih
    rcases hc with ⟨rfl, q1, q2, _⟩ | ⟨rfl, rfl, hk⟩
    · by_cases h10 : q ≤ 10
      · exact ⟨2, h, 0, by rw [tkP, e, hz, tick_cap hh hb (by omega), if_pos h10], hh, .inr ⟨rfl, rfl, by omega⟩⟩
      · exact ⟨3, h, q - 10, by rw [tkP, e, hz, tick_cap hh hb (by omega), if_neg h10], hh, .inl ⟨rfl, by omega, by omega, fun h0 => by omega⟩⟩
    · exact ⟨2, h, 0, by rw [tkP, e, hz, tick_on hh hb], hh, .inr ⟨rfl, rfl, by omega⟩⟩
theorem tkL_at (p : Pl) (zs : List Int) : ∀ n j, j < n → elAt (tkL p zs n) j = tkP p zs (j + 1) := by
  intro n
  induction n with
  | zero => intro j hj; omega
  | succ n ih =>
    intro j hj
    have hl := tkL_len p zs n
    obtain ⟨h1, h2⟩ := elAt_app (tkL p zs n) (tkP p zs (n + 1))
    rw [tkL]
    by_cases e : j < n
    · rw [h1 j (by omega)]; exact ih j e
    · obtain rfl : j = n := by omega
      rw [hl] at h2
      exact h2
theorem tkB_zero {p : Pl} {n : Nat} (hp : apOk p = true) (hn : n ≤ 300) : tkB p (List.replicate n 0) = true := by
  have h1 : allB (List.replicate n 0) (-100) 100 = true := by
    refine decide_eq_true fun i hi => ?_
    have : nth (List.replicate n (0 : Int)) i = 0 := by
      unfold nth
      have hi' : i < n := by simpa using hi
      simp [hi']
    rw [this]; decide
  have h2 : ¬ (300 < ((List.replicate n (0 : Int)).length : Int)) := by simp; omega
  simp only [tkB, hp, h1, h2, decide_false, Bool.not_false, Bool.and_self]
theorem tkR_zero {p : Pl} {n : Nat} (hp : apOk p = true) (hn : n ≤ 300) : tkR p (List.replicate n 0) = tkL p (List.replicate n 0) n := by
  rw [tkR, if_pos (tkB_zero hp hn), List.length_replicate]

end Go.Proofs.Ytfahhjgpgccdhad
