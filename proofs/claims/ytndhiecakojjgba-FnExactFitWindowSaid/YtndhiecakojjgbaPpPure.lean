/-
  Plans of windows in plain numbers: whether one is so, whose a tick is, how much a partition has. No program here.
-/
import Derived.Test.YtndhiecakojjgbaLowPure
import Derived.Test.YtndhiecakojjgbaToWn
namespace Go.Proofs.Ytndhiecakojjgba
open Go

/-- Where the windows ahead of place k end. -/
def pwE (ws : List Wn) : Nat → Int
  | 0 => 0
  | k + 1 => (elAt ws k).a1 + (elAt ws k).a2
/-- Whether a window is so, the ones ahead ending at e. -/
def wnB (fr pa e : Int) (x : Wn) : Bool := inB x.a0 0 (pa - 1) && inB x.a2 1 10000 && inB x.a1 e fr && decide (x.a1 + x.a2 ≤ fr)
def pwB (fr pa : Int) (ws : List Wn) : Bool := decide (∀ k, k < ws.length → wnB fr pa (pwE ws k) (elAt ws k) = true)
def ppB (fr pa : Int) (ws : List Wn) : Bool := inB fr 1 100000 && inB pa 1 10 && decide (ws.length ≤ 40) && pwB fr pa ws
theorem wnB_facts {fr pa e : Int} {x : Wn} (h : wnB fr pa e x = true) : (0 ≤ x.a0 ∧ x.a0 ≤ pa - 1) ∧ (1 ≤ x.a2 ∧ x.a2 ≤ 10000) ∧ (e ≤ x.a1 ∧ x.a1 ≤ fr) ∧ x.a1 + x.a2 ≤ fr := by
  simp only [wnB, Bool.and_eq_true, decide_eq_true_eq] at h
  exact ⟨in_facts h.1.1.1, in_facts h.1.1.2, in_facts h.1.2, h.2⟩
theorem pwB_no {fr pa : Int} {ws : List Wn} {k : Nat} (hk : k < ws.length) (h : wnB fr pa (pwE ws k) (elAt ws k) = false) : pwB fr pa ws = false := by
  refine decide_eq_false fun q => ?_
  have := q k hk
  rw [h] at this
  cases this
theorem pwB_yes {fr pa : Int} {ws : List Wn} (h : ∀ k, k < ws.length → wnB fr pa (pwE ws k) (elAt ws k) = true) : pwB fr pa ws = true := decide_eq_true h
theorem ppB_facts {fr pa : Int} {ws : List Wn} (h : ppB fr pa ws = true) : (1 ≤ fr ∧ fr ≤ 100000) ∧ (1 ≤ pa ∧ pa ≤ 10) ∧ ws.length ≤ 40 ∧ ∀ k, k < ws.length → wnB fr pa (pwE ws k) (elAt ws k) = true := by
  simp only [ppB, Bool.and_eq_true, decide_eq_true_eq] at h
  exact ⟨in_facts h.1.1.1, in_facts h.1.1.2, h.1.2, of_decide_eq_true h.2⟩
theorem pwE_pos {fr pa : Int} {ws : List Wn} : ∀ k, (∀ j, j < k → wnB fr pa (pwE ws j) (elAt ws j) = true) → 0 ≤ pwE ws k
  | 0, _ => Int.le_refl 0
  | k + 1, h => by
    have ih := pwE_pos k (fun j hj => h j (by omega))
    have w := wnB_facts (h k (by omega))
    show 0 ≤ (elAt ws k).a1 + (elAt ws k).a2
    omega
/-- Every window of a plan that is so. -/
theorem ppB_all {fr pa : Int} {ws : List Wn} (h : ppB fr pa ws = true) {k : Nat} (hk : k < ws.length) : (0 ≤ (elAt ws k).a0 ∧ (elAt ws k).a0 ≤ 9) ∧ (1 ≤ (elAt ws k).a2 ∧ (elAt ws k).a2 ≤ 10000) ∧ (0 ≤ (elAt ws k).a1 ∧ (elAt ws k).a1 ≤ 100000) ∧ (elAt ws k).a1 + (elAt ws k).a2 ≤ fr := by
  have f := ppB_facts h
  have w := wnB_facts (f.2.2.2 k hk)
  have e0 := pwE_pos k (fun j hj => f.2.2.2 j (by omega))
  omega
/-- Whether a tick of the frame is in a window; the first such window, or how many there are. -/
def inW (a : Int) (x : Wn) : Bool := inB a x.a1 (x.a1 + x.a2 - 1)
def owF (ws : List Wn) (a : Int) : Nat := ((List.range ws.length).find? fun k => inW a (elAt ws k)).getD ws.length
def owB (fr pa : Int) (ws : List Wn) (t : Int) : Bool := ppB fr pa ws && inB t 0 100000000
def owR (fr pa : Int) (ws : List Wn) (t : Int) : Int := if owB fr pa ws t = true then (if owF ws (t % fr) < ws.length then (elAt ws (owF ws (t % fr))).a0 else -1) else -1
theorem owF_at {ws : List Wn} {a : Int} {k : Nat} (hk : k < ws.length) (h : inW a (elAt ws k) = true) (hb : ∀ j, j < k → inW a (elAt ws j) = false) : owF ws a = k := by
  have : (List.range ws.length).find? (fun k => inW a (elAt ws k)) = some k := by
    rw [List.find?_range_eq_some]
    exact ⟨h, by simpa using hk, fun j hj => by simpa using hb j hj⟩
  unfold owF; rw [this]; rfl
theorem owF_none {ws : List Wn} {a : Int} (hb : ∀ j, j < ws.length → inW a (elAt ws j) = false) : owF ws a = ws.length := by
  have : (List.range ws.length).find? (fun k => inW a (elAt ws k)) = none := by
    rw [List.find?_eq_none]
    intro i hi
    simpa using hb i (by simpa using hi)
  unfold owF; rw [this]; rfl
theorem ow_no {fr pa t : Int} {ws : List Wn} (h : owB fr pa ws t = false) : owR fr pa ws t = -1 := by simp [owR, h]
theorem ow_at {fr pa t : Int} {ws : List Wn} {k : Nat} (h : owB fr pa ws t = true) (hk : k < ws.length) (e : owF ws (t % fr) = k) : owR fr pa ws t = (elAt ws k).a0 := by simp [owR, h, e, hk]
theorem ow_none {fr pa t : Int} {ws : List Wn} (e : owF ws (t % fr) = ws.length) : owR fr pa ws t = -1 := by simp [owR, e]

end Go.Proofs.Ytndhiecakojjgba
