/-
  A smoothed list of floats, in plain numbers. No program here.
-/
import Derived.Test.YtomcbbpaajpeiaaRowE
import Derived.Test.YtomcbbpaajpeiaaFlFin
namespace Go.Proofs.Ytomcbbpaajpeiaa
open Go

/-- Two lists of one value. -/
structure AlikeF (ps qs : List Nat) : Prop where
  len : ps.length = qs.length
  at_ : ∀ i, Alike .f64 (elAt ps i) (elAt qs i)
theorem AlikeF.symm {ps qs : List Nat} (h : AlikeF ps qs) : AlikeF qs ps := ⟨h.len.symm, fun i => (h.at_ i).symm⟩
theorem AlikeF.trans {ps qs rs : List Nat} (h : AlikeF ps qs) (g : AlikeF qs rs) : AlikeF ps rs := ⟨h.len.trans g.len, fun i => (h.at_ i).trans (g.at_ i)⟩

/-- Whether there was a number among the first k. -/
def smS (ps : List Nat) : Nat → Bool
  | 0 => false
  | k + 1 => smS ps k || !nanB .f64 (elAt ps k)
/-- One step towards x. -/
def smStep (part y x : Nat) : Nat := fl .add .f64 y (fl .mul .f64 (fl .sub .f64 x y) part)
/-- What is told behind the first k. -/
def smY (ps : List Nat) (part : Nat) : Nat → Nat
  | 0 => qnan .f64
  | k + 1 => if nanB .f64 (elAt ps k) = true then smY ps part k else smStep part (if smS ps k = true then smY ps part k else elAt ps k) (elAt ps k)
theorem smStep_alike {part x y y' : Nat} (h : Alike .f64 y y') : Alike .f64 (smStep part y x) (smStep part y' x) :=
  h.fl (((Alike.refl _ _).fl h).fl (.refl _ _))
theorem smY_none {ps : List Nat} {part : Nat} : ∀ k, smS ps k = false → smY ps part k = qnan .f64 := by
  intro k
  induction k with
  | zero => intro _; rfl
  | succ k ih =>
    intro h
    unfold smS at h
    simp only [Bool.or_eq_false_iff, Bool.not_eq_false'] at h
    unfold smY
    rw [if_pos h.2]
    exact ih h.1

theorem sm_nan {ps : List Nat} {k : Nat} (part : Nat) (h : nanB .f64 (elAt ps k) = true) : smS ps (k + 1) = smS ps k ∧ smY ps part (k + 1) = smY ps part k := by
  refine ⟨?_, if_pos h⟩
  show (smS ps k || !nanB .f64 (elAt ps k)) = _
  rw [h]; simp
theorem sm_num {ps : List Nat} {k : Nat} (part : Nat) (h : nanB .f64 (elAt ps k) = false) : smS ps (k + 1) = true ∧ smY ps part (k + 1) = smStep part (if smS ps k = true then smY ps part k else elAt ps k) (elAt ps k) := by
  refine ⟨?_, if_neg (by rw [h]; simp)⟩
  show (smS ps k || !nanB .f64 (elAt ps k)) = _
  rw [h]; simp

def smB (ps : List Nat) : Bool := decide (ps.length ≤ 60)
def smR (ps : List Nat) (part : Nat) : List Nat := if smB ps = true then (List.range ps.length).map (fun k => smY ps part (k + 1)) else []
theorem smR_len (ps : List Nat) (part : Nat) : (smR ps part).length ≤ 60 := by
  unfold smR smB
  by_cases h : ps.length ≤ 60
  · simp [h]
  · simp [h]
/-- One more is told. -/
theorem AlikeF.push {ps Z : List Nat} {part k y : Nat} (h : AlikeF Z ((List.range k).map fun k => smY ps part (k + 1))) (hy : Alike .f64 y (smY ps part (k + 1))) : AlikeF (Z ++ [y]) ((List.range (k + 1)).map fun k => smY ps part (k + 1)) := by
  have hl : Z.length = k := by simpa using h.len
  refine ⟨by simp [hl], fun i => ?_⟩
  rw [List.range_succ, List.map_append]
  obtain ⟨a1, a2⟩ := elAt_app Z y
  obtain ⟨b1, b2⟩ := elAt_app ((List.range k).map fun k => smY ps part (k + 1)) (smY ps part (k + 1))
  by_cases e : i < k
  · rw [a1 i (by omega)]
    show Alike .f64 _ (elAt (_ ++ [smY ps part (k + 1)]) i)
    rw [b1 i (by simpa using e)]
    exact h.at_ i
  · by_cases e2 : i = k
    · subst e2
      rw [← hl, a2, hl]
      show Alike .f64 _ (elAt (_ ++ [smY ps part (i + 1)]) i)
      have hb : ((List.range i).map fun k => smY ps part (k + 1)).length = i := by simp
      rw [hb] at b2
      rw [b2]
      exact hy
    · have h1 : elAt (Z ++ [y]) i = 0 := by unfold elAt; rw [List.getElem?_eq_none (by simp; omega)]; rfl
      have h2 : elAt ((List.range k).map (fun k => smY ps part (k + 1)) ++ [smY ps part (k + 1)]) i = 0 := by unfold elAt; rw [List.getElem?_eq_none (by simp; omega)]; rfl
      rw [h1]
      show Alike .f64 0 (elAt (_ ++ [smY ps part (k + 1)]) i)
      rw [h2]
      exact .refl _ _

end Go.Proofs.Ytomcbbpaajpeiaa
