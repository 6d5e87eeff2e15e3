/-
  A flight by steps, in plain numbers. No program here.
-/
import Derived.Test.YtdamnfiaciacmaaStepPure
namespace Go.Proofs.Ytdamnfiaciacmaa
open Go

/-- Two lists of one value. -/
structure AlikeM (ps qs : List Mo) : Prop where
  len : ps.length = qs.length
  at_ : ∀ i, moAlike (elAt ps i) (elAt qs i)
theorem AlikeM.symm {ps qs : List Mo} (h : AlikeM ps qs) : AlikeM qs ps := ⟨h.len.symm, fun i => (h.at_ i).symm⟩
theorem AlikeM.trans {ps qs rs : List Mo} (h : AlikeM ps qs) (g : AlikeM qs rs) : AlikeM ps rs := ⟨h.len.trans g.len, fun i => (h.at_ i).trans (g.at_ i)⟩

/-- The motion behind the first k elevators. -/
def flyM (m : Mo) (f : Fo) (es : List Nat) (dt : Nat) : Nat → Mo
  | 0 => m
  | k + 1 => stepM (flyM m f es dt k) f (elAt es k) dt
def flyB (es : List Nat) (dt : Nat) : Bool := decide (es.length ≤ 400) && (FloatKind.f64.format.order dt 0 == some .gt)
def flyR (m : Mo) (f : Fo) (es : List Nat) (dt : Nat) : List Mo := if flyB es dt = true then (List.range es.length).map (fun k => flyM m f es dt (k + 1)) else []
theorem fly_yes (m : Mo) (f : Fo) {es : List Nat} {dt : Nat} (hl : es.length ≤ 400) (hd : (FloatKind.f64.format.order dt 0 == some .gt) = true) : flyB es dt = true ∧ flyR m f es dt = (List.range es.length).map (fun k => flyM m f es dt (k + 1)) := by
  have h : flyB es dt = true := by unfold flyB; rw [hd, decide_eq_true hl]; rfl
  exact ⟨h, if_pos h⟩
theorem fly_no (m : Mo) (f : Fo) {es : List Nat} {dt : Nat} (hok : ¬ (es.length ≤ 400 ∧ (FloatKind.f64.format.order dt 0 == some .gt) = true)) : flyB es dt = false ∧ flyR m f es dt = [] := by
  have h : flyB es dt = false := by
    unfold flyB
    by_cases hl : es.length ≤ 400
    · rw [Bool.eq_false_iff.2 (fun e => hok ⟨hl, e⟩), Bool.and_false]
    · rw [decide_eq_false hl]; rfl
  exact ⟨h, if_neg (by rw [h]; simp)⟩
theorem flyR_len (m : Mo) (f : Fo) (es : List Nat) (dt : Nat) : (flyR m f es dt).length ≤ 400 := by
  unfold flyR
  by_cases h : flyB es dt = true
  · rw [if_pos h]
    unfold flyB at h
    simp at h
    simpa using h.1
  · rw [if_neg h]; simp
/-- One more is told. -/
theorem AlikeM.push {F : Nat → Mo} {Z : List Mo} {k : Nat} {y : Mo} (h : AlikeM Z ((List.range k).map F)) (hy : moAlike y (F k)) : AlikeM (Z ++ [y]) ((List.range (k + 1)).map F) := by
  have hl : Z.length = k := by simpa using h.len
  have hm : ((List.range k).map F).length = k := by simp
  refine ⟨by simp [hl], fun i => ?_⟩
  rw [List.range_succ, List.map_append]
  obtain ⟨a1, a2⟩ := elAt_app Z y
  obtain ⟨b1, b2⟩ := elAt_app ((List.range k).map F) (F k)
  rw [hm] at b2
  rw [hl] at a2
  by_cases e : i < k
  · rw [a1 i (by omega)]
    show moAlike _ (elAt (_ ++ [F k]) i)
    rw [b1 i (by simpa using e)]
    exact h.at_ i
  · by_cases e2 : i = k
    · subst e2
      rw [a2]
      show moAlike _ (elAt (_ ++ [F i]) i)
      rw [b2]
      exact hy
    · have h1 : elAt (Z ++ [y]) i = default := by unfold elAt; rw [List.getElem?_eq_none (by simp; omega)]; rfl
      have h2 : elAt ((List.range k).map F ++ [F k]) i = default := by unfold elAt; rw [List.getElem?_eq_none (by simp; omega)]; rfl
      rw [h1]
      show moAlike default (elAt (_ ++ [F k]) i)
      rw [h2]
      exact moAlike_refl _

end Go.Proofs.Ytdamnfiaciacmaa
