/-
  Plain mathematics of Order's plan: every burn of it can be done, it is inside behind every burn, no burn is of more than a step, and its flag says whether the fuel is gone. No program here.
-/
import Derived.Test.YtigpemoicfdfcaaOrdPure
namespace Go.Proofs.Ytigpemoicfdfcaa

theorem nextK_is {ms fs gs : List Int} {dm dq step : Int} {T : List (Int × Int)} {k : Nat} (h : nextK ms fs gs dm dq step T = some k) : k < T.length ∧ candB ms fs gs dm dq step T k = true := by
  unfold nextK at h
  rw [List.find?_range_eq_some] at h
  exact ⟨by simpa using h.2.1, h.1⟩
theorem afterB_app (ts P : List (Int × Int)) (x : Int × Int) : ∀ k, k ≤ P.length → afterB ts (P ++ [x]) k = afterB ts P k := by
  intro k
  induction k with
  | zero => intro _; rfl
  | succ k ih =>
    intro hk
    have h := (app_at (P := P) (a := x.1) (b := x.2)).1 k (by omega)
    rw [afterB_succ, afterB_succ, ih (by omega), h.1, h.2]
theorem afterB_end (ts P : List (Int × Int)) (a b : Int) : afterB ts (P ++ [(a, b)]) (P.length + 1) = take1 (afterB ts P P.length) a b := by
  obtain ⟨_, h1, h2⟩ := app_at (P := P) (a := a) (b := b)
  rw [afterB_succ, afterB_app _ _ _ _ (Nat.le_refl _), h1, h2]

structure Plan (ms fs gs : List Int) (dm dq step : Int) (ts P : List (Int × Int)) : Prop where
  can : ∀ j, j < P.length → canAt ts P j = true
  ins : ∀ j, j ≤ P.length → inAt ms fs gs dm dq ts P j = true
  many : ∀ j, j < P.length → 1 ≤ sndAt P j ∧ sndAt P j ≤ step

theorem Plan.snoc {ms fs gs : List Int} {dm dq step : Int} {ts P : List (Int × Int)} (h : Plan ms fs gs dm dq step ts P) {k : Nat} (hs : 1 ≤ step ∧ step ≤ 10000) (hk : k < ts.length) (hc : candB ms fs gs dm dq step (afterB ts P P.length) k = true) :
    Plan ms fs gs dm dq step ts (P ++ [((k : Int), manyAt step (afterB ts P P.length) k)]) := by
  obtain ⟨a0, a1, a2⟩ := app_at (P := P) (a := (k : Int)) (b := manyAt step (afterB ts P P.length) k)
  have hl : (P ++ [((k : Int), manyAt step (afterB ts P P.length) k)]).length = P.length + 1 := by simp
  simp only [candB, Bool.and_eq_true, decide_eq_true_eq] at hc
  have hm : manyAt step (afterB ts P P.length) k ≤ step := by unfold manyAt; omega
  refine ⟨fun j hj => ?_, fun j hj => ?_, fun j hj => ?_⟩
  · rw [hl] at hj
    unfold canAt
    rw [afterB_app _ _ _ _ (by omega)]
    by_cases e : j < P.length
    · rw [(a0 j e).1, (a0 j e).2]; exact h.can j e
    · obtain rfl : j = P.length := by omega
      rw [a1, a2]
      exact many_can (by rw [afterB_len]; exact hk) hs hc.1
  · rw [hl] at hj
    by_cases e : j ≤ P.length
    · have := h.ins j e
      unfold inAt massB momB at this ⊢
      rw [afterB_app _ _ _ _ e]
      exact this
    · obtain rfl : j = P.length + 1 := by omega
      unfold inAt massB momB
      rw [afterB_end]
      have := hc.2
      rw [afterB_len] at this
      exact this
  · rw [hl] at hj
    by_cases e : j < P.length
    · rw [(a0 j e).2]; exact h.many j e
    · obtain rfl : j = P.length := by omega
      rw [a2]
      omega

theorem orderR_plan {ms fs gs : List Int} {dm dq step : Int} {ts : List (Int × Int)} (hs : 1 ≤ step ∧ step ≤ 10000) : ∀ (n : Nat) (P : List (Int × Int)), P.length + n ≤ 60 → Plan ms fs gs dm dq step ts P →
    Plan ms fs gs dm dq step ts (orderR ms fs gs dm dq step n (afterB ts P P.length) P).1 ∧ (orderR ms fs gs dm dq step n (afterB ts P P.length) P).1.length ≤ 60 ∧
    (orderR ms fs gs dm dq step n (afterB ts P P.length) P).2 = decide (sumM (afterB ts (orderR ms fs gs dm dq step n (afterB ts P P.length) P).1 (orderR ms fs gs dm dq step n (afterB ts P P.length) P).1.length) ts.length = 0) := by
  intro n
  induction n with
  | zero =>
    intro P hl hp
    refine ⟨hp, by simpa [orderR] using hl, ?_⟩
    simp only [orderR, afterB_len]
  | succ n ih =>
    intro P hl hp
    by_cases hz : sumM (afterB ts P P.length) (afterB ts P P.length).length = 0
    · rw [orderR_empty hz]
      rw [afterB_len] at hz
      exact ⟨hp, by simp only; omega, by simp [hz]⟩
    · cases hn : nextK ms fs gs dm dq step (afterB ts P P.length) with
      | none =>
        rw [orderR_none hz hn]
        rw [afterB_len] at hz
        exact ⟨hp, by simp only; omega, by simp [hz]⟩
      | some k =>
        rw [orderR_some hz hn]
        obtain ⟨hk, hc⟩ := nextK_is hn
        rw [afterB_len] at hk
        have hp' := hp.snoc hs hk hc
        have hl' : (P ++ [((k : Int), manyAt step (afterB ts P P.length) k)]).length = P.length + 1 := by simp
        have := ih _ (by rw [hl']; omega) hp'
        rw [hl', afterB_end] at this
        exact this

/-- What has been burnt by the first k. -/
def gone (bs : List (Int × Int)) : Nat → Int
  | 0 => 0
  | k + 1 => gone bs k + sndAt bs k
theorem gone_succ (bs : List (Int × Int)) (k : Nat) : gone bs (k + 1) = gone bs k + sndAt bs k := rfl
theorem gone_is {ts bs : List (Int × Int)} : ∀ k, (∀ j, j < k → canAt ts bs j = true) → sumM (afterB ts bs k) ts.length = sumM ts ts.length - gone bs k := by
  intro k
  induction k with
  | zero => intro _; simp [gone, afterB]
  | succ k ih =>
    intro h
    have h1 := (massB_succ (dm := 0) (dq := 0) (h k (by omega))).1
    have h2 := ih (fun j hj => h j (by omega))
    unfold massB at h1
    rw [gone_succ]
    omega
theorem gone_bd {bs : List (Int × Int)} {step : Int} : ∀ k, (∀ j, j < k → 1 ≤ sndAt bs j ∧ sndAt bs j ≤ step) → step ≤ 10000 → 0 ≤ gone bs k ∧ gone bs k ≤ 10000 * k := by
  intro k
  induction k with
  | zero => intro _ _; simp [gone]
  | succ k ih =>
    intro h hs
    have h1 := ih (fun j hj => h j (by omega)) hs
    have h2 := h k (by omega)
    rw [gone_succ]
    omega

/-- The law, in plain mathematics: whether started inside or not. -/
theorem order_law {ms fs gs : List Int} {dm dq step : Int} {ts : List (Int × Int)} (hok : orderOk ms fs gs dm dq step ts = true) :
    burntC ts (orderRes ms fs gs dm dq step ts).1 = -1 ∧ burntT ts (orderRes ms fs gs dm dq step ts).1 = afterB ts (orderRes ms fs gs dm dq step ts).1 (orderRes ms fs gs dm dq step ts).1.length ∧
    (∀ j, j < (orderRes ms fs gs dm dq step ts).1.length → canAt ts (orderRes ms fs gs dm dq step ts).1 j = true) ∧
    (∀ j, j < (orderRes ms fs gs dm dq step ts).1.length → 1 ≤ sndAt (orderRes ms fs gs dm dq step ts).1 j ∧ sndAt (orderRes ms fs gs dm dq step ts).1 j ≤ step) ∧
    (orderRes ms fs gs dm dq step ts).1.length ≤ 60 ∧
    (orderRes ms fs gs dm dq step ts).2 = (decide (sumM (afterB ts (orderRes ms fs gs dm dq step ts).1 (orderRes ms fs gs dm dq step ts).1.length) ts.length = 0) && decide (leavesV ms fs gs dm dq ts (orderRes ms fs gs dm dq step ts).1 = (orderRes ms fs gs dm dq step ts).1.length)) ∧
    ((orderRes ms fs gs dm dq step ts).1.length > 0 → leavesV ms fs gs dm dq ts (orderRes ms fs gs dm dq step ts).1 = (orderRes ms fs gs dm dq step ts).1.length) := by
  have hparts := hok
  simp only [orderOk, Bool.and_eq_true] at hparts
  obtain ⟨⟨⟨he, hd⟩, ht⟩, hst⟩ := hparts
  have hs := in_facts hst
  cases hi : insB ms fs gs (dm + sumM ts ts.length) (dq + sumQ ts ts.length)
  · rw [order_out hi]
    have hb0 : burntOk ts [] = true := by simp [burntOk, ht]
    obtain ⟨t1, t2⟩ := burnt_all (ts := ts) (bs := []) hb0 (fun j hj => by simp at hj)
    have hlv := leaves_at (ms := ms) (fs := fs) (gs := gs) (dm := dm) (dq := dq) (ts := ts) (bs := []) (k := 0) (by simp [leavesOk, he, hd, t2]) (by simp) hi (fun j hj => by omega)
    refine ⟨t2, t1, fun j hj => by simp at hj, fun j hj => by simp at hj, by simp, ?_, fun h => by simp at h⟩
    rw [hlv]
    simp
  · rw [order_run hok hi]
    obtain ⟨hp, hl, hf⟩ := orderR_plan (ms := ms) (fs := fs) (gs := gs) (dm := dm) (dq := dq) (ts := ts) hs 60 [] (by simp) ⟨fun j hj => by simp at hj, fun j hj => by
      obtain rfl : j = 0 := by simpa using hj
      exact hi, fun j hj => by simp at hj⟩
    have e0 : afterB ts [] ([] : List (Int × Int)).length = ts := rfl
    rw [e0] at hp hl hf
    obtain ⟨t1, t2⟩ := burnt_all (ts := ts) (bs := (orderR ms fs gs dm dq step 60 ts []).1) (by simp [burntOk, ht, hl]) hp.can
    have hlv := leaves_all (ms := ms) (fs := fs) (gs := gs) (dm := dm) (dq := dq) (ts := ts) (bs := (orderR ms fs gs dm dq step 60 ts []).1) (by simp [leavesOk, he, hd, t2]) hp.ins
    refine ⟨t2, t1, hp.can, hp.many, hl, ?_, fun _ => hlv⟩
    rw [hlv, hf]
    simp

/-- A burn from a tank that is not there is not done. -/
theorem burnt_none {ts : List (Int × Int)} (ht : tanksB ts = true) : burntT ts [((ts.length : Int), 1)] = ts ∧ burntC ts [((ts.length : Int), 1)] = 0 := by
  have hc : canAt ts [((ts.length : Int), 1)] 0 = false := by
    simp only [canAt, canB, afterB, inB, fstAt, sndAt]
    simp
  have := burnt_stop (ts := ts) (bs := [((ts.length : Int), 1)]) (k := 0) (by simp [burntOk, ht]) (by simp) hc (fun j hj => by omega)
  exact ⟨this.1, by rw [this.2]; rfl⟩

end Go.Proofs.Ytigpemoicfdfcaa
