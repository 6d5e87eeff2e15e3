/-
  Plain mathematics of Order: the first tank that may be burnt from, and the plan that comes of it. No program here.
-/
import Derived.Test.YtbaocifpifbldajLeavesPure
namespace Go.Proofs.Ytbaocifpifbldaj

theorem fstAt_out {ps : List (Int × Int)} {i : Nat} (h : ps.length ≤ i) : fstAt ps i = 0 := by unfold fstAt; rw [List.getElem?_eq_none h]; rfl

/-- How much is burnt at tank k, if any. -/
def manyAt (step : Int) (T : List (Int × Int)) (k : Nat) : Int := min step (fstAt T k)
def candB (ms fs gs : List Int) (dm dq step : Int) (T : List (Int × Int)) (k : Nat) : Bool :=
  decide (0 < manyAt step T k) && insB ms fs gs (dm + sumM (take1 T k (manyAt step T k)) T.length) (dq + sumQ (take1 T k (manyAt step T k)) T.length)
def nextK (ms fs gs : List Int) (dm dq step : Int) (T : List (Int × Int)) : Option Nat := (List.range T.length).find? fun k => candB ms fs gs dm dq step T k
theorem nextK_none {ms fs gs : List Int} {dm dq step : Int} {T : List (Int × Int)} (h : ∀ k, k < T.length → candB ms fs gs dm dq step T k = false) : nextK ms fs gs dm dq step T = none := by
  unfold nextK
  rw [List.find?_eq_none]
  intro x hx
  simp [h x (by simpa using hx)]
theorem nextK_some {ms fs gs : List Int} {dm dq step : Int} {T : List (Int × Int)} {k : Nat} (hk : k < T.length) (h : candB ms fs gs dm dq step T k = true) (hb : ∀ j, j < k → candB ms fs gs dm dq step T j = false) : nextK ms fs gs dm dq step T = some k := by
  unfold nextK
  rw [List.find?_range_eq_some]
  refine ⟨h, by simpa using hk, fun j hj => by simp [hb j hj]⟩

/-- The plan from some tanks on, with so many burns allowed. -/
def orderR (ms fs gs : List Int) (dm dq step : Int) : Nat → List (Int × Int) → List (Int × Int) → List (Int × Int) × Bool
  | 0, T, P => (P, decide (sumM T T.length = 0))
  | n + 1, T, P => if sumM T T.length = 0 then (P, true) else
      match nextK ms fs gs dm dq step T with
      | none => (P, false)
      | some k => orderR ms fs gs dm dq step n (take1 T k (manyAt step T k)) (P ++ [((k : Int), manyAt step T k)])
theorem orderR_empty {ms fs gs : List Int} {dm dq step : Int} {n : Nat} {T P : List (Int × Int)} (h : sumM T T.length = 0) : orderR ms fs gs dm dq step n T P = (P, true) := by
  cases n <;> simp [orderR, h]
theorem orderR_full {ms fs gs : List Int} {dm dq step : Int} {T P : List (Int × Int)} (h : ¬ sumM T T.length = 0) : orderR ms fs gs dm dq step 0 T P = (P, false) := by simp [orderR, h]
theorem orderR_none {ms fs gs : List Int} {dm dq step : Int} {n : Nat} {T P : List (Int × Int)} (h : ¬ sumM T T.length = 0) (hn : nextK ms fs gs dm dq step T = none) : orderR ms fs gs dm dq step n T P = (P, false) := by
  cases n <;> simp [orderR, h, hn]
theorem orderR_some {ms fs gs : List Int} {dm dq step : Int} {n k : Nat} {T P : List (Int × Int)} (h : ¬ sumM T T.length = 0) (hn : nextK ms fs gs dm dq step T = some k) : orderR ms fs gs dm dq step (n + 1) T P = orderR ms fs gs dm dq step n (take1 T k (manyAt step T k)) (P ++ [((k : Int), manyAt step T k)]) := by
  simp [orderR, h, hn]

def orderOk (ms fs gs : List Int) (dm dq step : Int) (ts : List (Int × Int)) : Bool := envB ms fs gs && dryB dm dq && tanksB ts && inB step 1 10000
def orderRes (ms fs gs : List Int) (dm dq step : Int) (ts : List (Int × Int)) : List (Int × Int) × Bool :=
  if orderOk ms fs gs dm dq step ts && insB ms fs gs (dm + sumM ts ts.length) (dq + sumQ ts ts.length) then orderR ms fs gs dm dq step 60 ts [] else ([], false)
theorem order_bad {ms fs gs : List Int} {dm dq step : Int} {ts : List (Int × Int)} (h : orderOk ms fs gs dm dq step ts = false) : orderRes ms fs gs dm dq step ts = ([], false) := by simp [orderRes, h]
theorem order_out {ms fs gs : List Int} {dm dq step : Int} {ts : List (Int × Int)} (h : insB ms fs gs (dm + sumM ts ts.length) (dq + sumQ ts ts.length) = false) : orderRes ms fs gs dm dq step ts = ([], false) := by simp [orderRes, h]
theorem order_run {ms fs gs : List Int} {dm dq step : Int} {ts : List (Int × Int)} (h0 : orderOk ms fs gs dm dq step ts = true) (h : insB ms fs gs (dm + sumM ts ts.length) (dq + sumQ ts ts.length) = true) : orderRes ms fs gs dm dq step ts = orderR ms fs gs dm dq step 60 ts [] := by simp [orderRes, h, h0]

/-- A burn of what may be taken can be done. -/
theorem many_can {step : Int} {T : List (Int × Int)} {k : Nat} (hk : k < T.length) (hs : 1 ≤ step ∧ step ≤ 10000) (h : 0 < manyAt step T k) : canB T k (manyAt step T k) = true := by
  unfold manyAt at h ⊢
  simp only [canB, Bool.and_eq_true, inB, decide_eq_true_eq, Int.toNat_natCast]
  omega
theorem set_back {T : List (Int × Int)} {k : Nat} (n : Int) (hk : k < T.length) : (take1 T k n).set k (fstAt T k, sndAt T k) = T := by
  unfold take1
  rw [Int.toNat_natCast, List.set_set]
  refine List.ext_getElem? fun i => ?_
  by_cases e : i = k
  · subst e
    rw [List.getElem?_set_self hk]
    unfold fstAt sndAt
    rw [List.getElem?_eq_getElem hk]
    rfl
  · rw [List.getElem?_set_ne (by omega)]
/-- Where the masses add up to nothing, so do the moments. -/
theorem sum_zero {T : List (Int × Int)} (h : ∀ j, j < T.length → itemB (fstAt T j) (sndAt T j) = true) : ∀ k, k ≤ T.length → sumM T k = 0 → sumQ T k = 0 := by
  intro k
  induction k with
  | zero => intro _ _; rfl
  | succ k ih =>
    intro hk hz
    rw [sumM_succ] at hz
    rw [sumQ_succ]
    have bd := (sum_bd (ps := T) k (fun j hj => h j (by omega))).1
    have f := item_facts (h k (by omega))
    have h1 : fstAt T k = 0 := by omega
    have h2 : sumM T k = 0 := by omega
    rw [ih (by omega) h2, h1]
    simp
theorem fuel_bd {dm dq : Int} {T : List (Int × Int)} (h8 : T.length ≤ 8) (hd : dryB dm dq = true) (h : ∀ j, j < T.length → itemB (fstAt T j) (sndAt T j) = true) :
    (0 ≤ sumM T T.length ∧ sumM T T.length ≤ 80000) ∧ (0 ≤ dm + sumM T T.length ∧ dm + sumM T T.length ≤ 480000) ∧ (-180000000 ≤ dq + sumQ T T.length ∧ dq + sumQ T T.length ≤ 180000000) := by
  have bd := sum_bd (ps := T) T.length (fun j hj => h j hj)
  have fd := dry_facts hd
  omega
theorem fits_app {P : List (Int × Int)} {a b : Int} (h : Fit2 P) (ha : -9223372036854775808 ≤ a ∧ a ≤ 9223372036854775807) (hb : -9223372036854775808 ≤ b ∧ b ≤ 9223372036854775807) : Fit2 (P ++ [(a, b)]) := by
  intro i
  unfold fstAt sndAt
  rcases Nat.lt_trichotomy i P.length with h1 | h1 | h1
  · rw [List.getElem?_append_left h1]; exact h i
  · subst h1; simp; exact ⟨ha, hb⟩
  · rw [List.getElem?_eq_none (by simp; omega)]; simp
theorem app_at {P : List (Int × Int)} {a b : Int} : (∀ i, i < P.length → fstAt (P ++ [(a, b)]) i = fstAt P i ∧ sndAt (P ++ [(a, b)]) i = sndAt P i) ∧ fstAt (P ++ [(a, b)]) P.length = a ∧ sndAt (P ++ [(a, b)]) P.length = b := by
  refine ⟨fun i hi => ?_, ?_, ?_⟩
  · unfold fstAt sndAt; rw [List.getElem?_append_left hi]; exact ⟨rfl, rfl⟩
  · simp [fstAt]
  · simp [sndAt]

end Go.Proofs.Ytbaocifpifbldaj
