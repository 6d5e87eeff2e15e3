/-
  A climb that leads to its target: it comes nearer in each tick, is held at it, never beyond it, and changes its mode at most twice. No program here.
-/
import Derived.Test.YtfahhjgpgccdhadTurnFacts
import Derived.Test.YtfahhjgpgccdhadChgIs
namespace Go.Proofs.Ytfahhjgpgccdhad
open Go.RowKit

/-- A pilot that climbs. -/
abbrev clP (v g t r : Int) : Pl := ⟨v, 0, g, t, r, 0, 0, 0, false⟩
theorem tick_cl {v g t r V H R : Int} (hv : 0 ≤ v ∧ v ≤ 4) (hg : 0 ≤ g ∧ g ≤ 60000) (ht : 0 ≤ t ∧ t ≤ 60000) (hr : -100 ≤ r ∧ r ≤ 100) (h : vtT v g t r = (V, H, R)) : tickP (clP v g t r) 0 = clP V H t R := by
  have hk : okT (clP v g t r) 0 = true := by simp [okT, apOk, inB]; omega
  have e : offR 0 0 = 0 := by decide
  simp [tickP, hk, h, ltT, e, clP]
/-- What is known of a climb from 1000 by far: s is its sign, e what is left. -/
structure Clm (s far rate : Int) (k : Nat) (v g r : Int) : Prop where
  left : ∃ e : Int, g = 1000 + far - s * e ∧ 0 ≤ e ∧ e ≤ s * far ∧ ((v = 1 ∧ e = 0 ∧ r = 0) ∨ ((v = 2 ∨ v = 3) ∧ 0 < e ∧ e ≤ s * far - k ∧ r = rate))
theorem clm_step {s far rate : Int} {k : Nat} {v g r : Int} (hs : s = 1 ∨ s = -1) (hf : 1 ≤ s * far ∧ s * far ≤ 256) (hr : 1 ≤ s * rate ∧ s * rate ≤ 20) (h : Clm s far rate k v g r) :
    ∃ V H R, vtT v g (1000 + far) r = (V, H, R) ∧ Clm s far rate (k + 1) V H R ∧ (v = 1 → V = 1) ∧ (v = 3 → V = 3 ∨ V = 1) ∧ (0 ≤ H ∧ H ≤ 60000) ∧ (1 ≤ V ∧ V ≤ 3) := by
  obtain ⟨e, hg, h0, h1, hc⟩ := h.left
  rcases hc with ⟨rfl, rfl, rfl⟩ | ⟨hv, he, hk, rfl⟩
  · refine ⟨1, g, 0, by simp [vtT], ⟨0, hg, by omega, by omega, .inl ⟨rfl, rfl, rfl⟩⟩, fun _ => rfl, fun h => by omega, ?_, by omega⟩
    rcases hs with rfl | rfl <;> omega
  · rcases hv with rfl | rfl
    · -- climbing
      have hr0 : ¬ r = 0 := by rcases hs with rfl | rfl <;> omega
      by_cases hl : s * r < e
      · have hlead : leadB (g + r) (1000 + far) r = true := by
          simp only [leadB, decide_eq_true_eq]
          rcases hs with rfl | rfl <;> omega
        have hn : (¬ (2 : Int) = 0) := by decide
        by_cases hd : ((1000 + far - (g + r)).natAbs : Int) ≤ 10 * (r.natAbs : Int)
        · refine ⟨3, g + r, r, by rw [vtT, if_neg hn, if_pos rfl, if_neg hr0, if_pos hlead, if_pos hd], ⟨e - s * r, ?_, by omega, by omega, .inr ⟨.inr rfl, by omega, by omega, rfl⟩⟩, fun h => by omega, fun h => by omega, ?_, by omega⟩
          · rcases hs with rfl | rfl <;> omega
          · rcases hs with rfl | rfl <;> omega
        · refine ⟨2, g + r, r, by rw [vtT, if_neg hn, if_pos rfl, if_neg hr0, if_pos hlead, if_neg hd], ⟨e - s * r, ?_, by omega, by omega, .inr ⟨.inl rfl, by omega, by omega, rfl⟩⟩, fun h => by omega, fun h => by omega, ?_, by omega⟩
          · rcases hs with rfl | rfl <;> omega
          · rcases hs with rfl | rfl <;> omega
      · have hlead : ¬ leadB (g + r) (1000 + far) r = true := by
          simp only [leadB, decide_eq_true_eq]
          rcases hs with rfl | rfl <;> omega
        refine ⟨1, 1000 + far, 0, by rw [vtT, if_neg (by decide), if_pos rfl, if_neg hr0, if_neg hlead], ⟨0, by omega, by omega, by omega, .inl ⟨rfl, rfl, rfl⟩⟩, fun h => by omega, fun h => by omega, ?_, by omega⟩
        rcases hs with rfl | rfl <;> omega
    · -- captured
      obtain ⟨c, hc⟩ : ∃ c, max 1 (((r.natAbs : Int) + 1).tdiv 2) = c := ⟨_, rfl⟩
      have hc1 : 1 ≤ c := by omega
      have ht : tow g (1000 + far) c = 1000 + far - s * max 0 (e - c) := by
        unfold tow
        rcases hs with rfl | rfl
        · rw [if_pos (by omega)]; omega
        · rw [if_neg (by omega)]; omega
      by_cases hd : tow g (1000 + far) c = 1000 + far
      · refine ⟨1, 1000 + far, 0, by rw [vtT, if_neg (by decide), if_neg (by decide), if_pos rfl, hc, if_pos hd], ⟨0, by omega, by omega, by omega, .inl ⟨rfl, rfl, rfl⟩⟩, fun h => by omega, fun _ => .inr rfl, ?_, by omega⟩
        rcases hs with rfl | rfl <;> omega
      · have hm : 0 < e - c := by
          rcases hs with rfl | rfl <;> omega
        refine ⟨3, tow g (1000 + far) c, r, by rw [vtT, if_neg (by decide), if_neg (by decide), if_pos rfl, hc, if_neg hd], ⟨e - c, by rw [ht]; congr 2; omega, by omega, by omega, .inr ⟨.inr rfl, by omega, by omega, rfl⟩⟩, fun h => by omega, fun _ => .inl rfl, ?_, by omega⟩
        rw [ht]
        rcases hs with rfl | rfl <;> omega
theorem clm_at {s far rate : Int} {zs : List Int} (hz : ∀ k, nth zs k = 0) (hs : s = 1 ∨ s = -1) (hf : 1 ≤ s * far ∧ s * far ≤ 256) (hr : 1 ≤ s * rate ∧ s * rate ≤ 20) : ∀ k : Nat, ∃ v g r, tkP (clP 2 1000 (1000 + far) rate) zs k = clP v g (1000 + far) r ∧ Clm s far rate k v g r ∧ (0 ≤ g ∧ g ≤ 60000) ∧ (1 ≤ v ∧ v ≤ 3) := by
  intro k
  induction k with
  | zero => exact ⟨2, 1000, rate, rfl, ⟨s * far, by rcases hs with rfl | rfl <;> omega, by omega, by omega, .inr ⟨.inl rfl, by omega, by simp, rfl⟩⟩, by omega, by omega⟩
  | succ k ih =>
    obtain ⟨v, g, r, e, hc, hg, hv⟩ := ih
    obtain ⟨V, H, R, e2, hc2, _, _, hH, hV⟩ := clm_step hs hf hr hc
    have hrb : -100 ≤ r ∧ r ≤ 100 := by
      obtain ⟨_, _, _, _, h | h⟩ := hc.left
      · omega
      · obtain ⟨_, _, _, rfl⟩ := h
        rcases hs with rfl | rfl <;> omega
    refine ⟨V, H, R, ?_, hc2, hH, hV⟩
    rw [tkP, e, hz, tick_cl (by omega) hg (by rcases hs with rfl | rfl <;> omega) hrb e2]
/-- Held behind so many ticks. -/
theorem clm_end {s far rate : Int} {k : Nat} {v g r : Int} (hf : s * far ≤ k) (h : Clm s far rate k v g r) : v = 1 ∧ g = 1000 + far ∧ r = 0 := by
  obtain ⟨e, hg, h0, h1, hc⟩ := h.left
  rcases hc with ⟨rfl, rfl, rfl⟩ | ⟨_, he, hk, _⟩
  · exact ⟨rfl, by omega, rfl⟩
  · omega
/-- How far a mode has come. -/
def phi (v : Int) : Nat := if v = 2 then 0 else if v = 3 then 1 else 2
theorem clm_chg {s far rate : Int} {zs : List Int} {ps : List Pl} {n : Nat} (hz : ∀ k, nth zs k = 0) (hs : s = 1 ∨ s = -1) (hf : 1 ≤ s * far ∧ s * far ≤ 256) (hr : 1 ≤ s * rate ∧ s * rate ≤ 20) (hp : ∀ j, j ≤ n → elAt ps j = tkP (clP 2 1000 (1000 + far) rate) zs j) :
    ∀ k : Nat, k ≤ n → chgN ps (k + 1) ≤ phi (elAt ps k).a0 := by
  intro k
  induction k with
  | zero => intro _; rw [chgN_one]; exact Nat.zero_le _
  | succ k ih =>
    intro hk
    have h1 := ih (by omega)
    obtain ⟨v, g, r, e, hc, hg, hv⟩ := clm_at hz hs hf hr k
    obtain ⟨V, H, R, e2, hc2, s1, s3, hH, hV⟩ := clm_step hs hf hr hc
    have hrb : -100 ≤ r ∧ r ≤ 100 := by
      obtain ⟨_, _, _, _, h | h⟩ := hc.left
      · omega
      · obtain ⟨_, _, _, rfl⟩ := h
        rcases hs with rfl | rfl <;> omega
    have a1 : (elAt ps k).a0 = v := by rw [hp k (by omega), e]
    have a2 : (elAt ps (k + 1)).a0 = V := by rw [hp (k + 1) hk, tkP, e, hz, tick_cl (by omega) hg (by rcases hs with rfl | rfl <;> omega) hrb e2]
    rw [a1] at h1
    rw [a2]
    by_cases hE : V = v
    · rw [chgN_no ps rfl (by rw [a1, a2]; exact hE), hE]; exact h1
    · rw [chgN_yes ps rfl (by rw [a1, a2]; exact hE)]
      have : phi v + 1 ≤ phi V := by
        rcases (show v = 1 ∨ v = 2 ∨ v = 3 by omega) with rfl | rfl | rfl
        · exact absurd (s1 rfl) hE
        · rcases (show V = 1 ∨ V = 3 by omega) with rfl | rfl <;> decide
        · rcases s3 rfl with rfl | rfl
          · exact absurd rfl hE
          · decide
      omega
theorem phi_le (v : Int) : phi v ≤ 2 := by unfold phi; split; omega; split <;> omega
theorem clm_two {s far rate : Int} {zs : List Int} {ps : List Pl} (hz : ∀ k, nth zs k = 0) (hs : s = 1 ∨ s = -1) (hf : 1 ≤ s * far ∧ s * far ≤ 256) (hr : 1 ≤ s * rate ∧ s * rate ≤ 20) {n : Nat} (hp : ∀ j, j ≤ n → elAt ps j = tkP (clP 2 1000 (1000 + far) rate) zs j) (hl : ps.length = n + 1) : ∃ cn : Nat, chgN ps ps.length = cn ∧ cn ≤ 2 := by
  refine ⟨_, rfl, ?_⟩
  rw [hl]
  exact Nat.le_trans (clm_chg hz hs hf hr hp n (Nat.le_refl _)) (phi_le _)
theorem tk_cons (p : Pl) (zs : List Int) (n : Nat) : ∀ j, j ≤ n → elAt (p :: tkL p zs n) j = tkP p zs j := by
  intro j hj
  cases j with
  | zero => rfl
  | succ j =>
    have e : elAt (p :: tkL p zs n) (j + 1) = elAt (tkL p zs n) j := by simp [elAt]
    rw [e]; exact tkL_at p zs n j (by omega)
theorem clm_law {s far rate : Int} (n : Nat) (hz : ∀ k, nth (List.replicate n (0 : Int)) k = 0) (hs : s = 1 ∨ s = -1) (hf : 1 ≤ s * far ∧ s * far ≤ 256) (hr : 1 ≤ s * rate ∧ s * rate ≤ 20) {LL ps : List Pl} (hL : LL = tkL (clP 2 1000 (1000 + far) rate) (List.replicate n 0) n) (hp : ps = [clP 2 1000 (1000 + far) rate] ++ LL) : ps.length = n + 1 ∧ ∃ cn : Nat, chgN ps ps.length = cn ∧ cn ≤ 2 := by
  have hl : ps.length = n + 1 := by rw [hp, List.length_append, hL, tkL_len, Nat.add_comm]; rfl
  refine ⟨hl, clm_two hz hs hf hr (fun k hk => ?_) hl⟩
  rw [hp, hL]
  exact tk_cons _ _ n k hk

end Go.Proofs.Ytfahhjgpgccdhad
