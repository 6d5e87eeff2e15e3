/-
  From which heights a way through all that follow is possible, in plain numbers: from the last point back. No program here.
-/
import Derived.Test.YtbaocifpifbldaePfPure
namespace Go.Proofs.Ytbaocifpifbldae
open Go

/-- The heights that lead on, k places ahead of the last one. -/
def bkA (ps : List Po) (up down : Int) : Nat → Po
  | 0 => elAt ps (ps.length - 1)
  | k + 1 => ⟨(elAt ps (ps.length - 1 - (k + 1))).a0,
      max (elAt ps (ps.length - 1 - (k + 1))).a1 ((bkA ps up down k).a1 - up * ((elAt ps (ps.length - 1 - k)).a0 - (elAt ps (ps.length - 1 - (k + 1))).a0)),
      min (elAt ps (ps.length - 1 - (k + 1))).a2 ((bkA ps up down k).a2 + down * ((elAt ps (ps.length - 1 - k)).a0 - (elAt ps (ps.length - 1 - (k + 1))).a0))⟩
/-- The heights that lead on at a place. -/
def bkI (ps : List Po) (up down : Int) (i : Nat) : Po := bkA ps up down (ps.length - 1 - i)
theorem bkI_last (ps : List Po) (up down : Int) : bkI ps up down (ps.length - 1) = elAt ps (ps.length - 1) := by
  unfold bkI; rw [Nat.sub_self]; rfl
theorem bkI_next {ps : List Po} {up down : Int} {i : Nat} (h : i + 1 < ps.length) : bkI ps up down i = ⟨(elAt ps i).a0,
      max (elAt ps i).a1 ((bkI ps up down (i + 1)).a1 - up * ((elAt ps (i + 1)).a0 - (elAt ps i).a0)),
      min (elAt ps i).a2 ((bkI ps up down (i + 1)).a2 + down * ((elAt ps (i + 1)).a0 - (elAt ps i).a0))⟩ := by
  unfold bkI
  obtain ⟨k, hk⟩ : ∃ k, ps.length - 1 - i = k + 1 := ⟨ps.length - 1 - i - 1, by omega⟩
  have e1 : ps.length - 1 - (i + 1) = k := by omega
  have e2 : ps.length - 1 - (k + 1) = i := by omega
  have e3 : ps.length - 1 - k = i + 1 := by omega
  rw [hk, e1]
  simp only [bkA, e2, e3]
theorem bkI_in {ps : List Po} {up down : Int} {i : Nat} (h : i < ps.length) : (elAt ps i).a1 ≤ (bkI ps up down i).a1 ∧ (bkI ps up down i).a2 ≤ (elAt ps i).a2 := by
  by_cases hl : i + 1 < ps.length
  · rw [bkI_next hl]; exact ⟨by show _ ≤ max _ _; omega, by show min _ _ ≤ _; omega⟩
  · have e : i = ps.length - 1 := by omega
    subst e
    rw [bkI_last]; exact ⟨Int.le_refl _, Int.le_refl _⟩
/-- The list while it is worked out from the last place back to t. -/
def bkL (ps : List Po) (up down : Int) (t : Nat) : List Po := (List.range ps.length).map fun j => if t ≤ j then bkI ps up down j else elAt ps j
theorem bkL_len (ps : List Po) (up down : Int) (t : Nat) : (bkL ps up down t).length = ps.length := by simp [bkL]
theorem bkL_at {ps : List Po} {up down : Int} {t j : Nat} (h : j < ps.length) : elAt (bkL ps up down t) j = if t ≤ j then bkI ps up down j else elAt ps j := by simp [bkL, elAt, h]
theorem bkL_done {ps : List Po} {up down : Int} {t j : Nat} (h : j < ps.length) (ht : t ≤ j) : elAt (bkL ps up down t) j = bkI ps up down j := by rw [bkL_at h, if_pos ht]
theorem bkL_left {ps : List Po} {up down : Int} {t j : Nat} (h : j < ps.length) (ht : j < t) : elAt (bkL ps up down t) j = elAt ps j := by rw [bkL_at h, if_neg (by omega)]
theorem list_ext {xs ys : List Po} (hl : xs.length = ys.length) (h : ∀ j, j < xs.length → elAt xs j = elAt ys j) : xs = ys := by
  apply List.ext_getElem hl
  intro j h1 h2
  have := h j h1
  simpa [elAt, h1, h2] using this
theorem bkL_start (ps : List Po) (up down : Int) : bkL ps up down (ps.length - 1) = ps := by
  refine list_ext (bkL_len _ _ _ _) (fun j hj => ?_)
  rw [bkL_len] at hj
  by_cases h : ps.length - 1 ≤ j
  · have e : j = ps.length - 1 := by omega
    rw [bkL_done hj h, e, bkI_last]
  · rw [bkL_left hj (by omega)]
theorem bkL_set {ps : List Po} {up down : Int} {i : Nat} (hi : i < ps.length) : (bkL ps up down (i + 1)).set i (bkI ps up down i) = bkL ps up down i := by
  refine list_ext (by simp [bkL_len]) (fun j hj => ?_)
  simp only [List.length_set, bkL_len] at hj
  by_cases e : j = i
  · subst e
    rw [bkL_done hj (Nat.le_refl _)]
    simp [elAt, bkL_len, hj]
  · have h1 : elAt ((bkL ps up down (i + 1)).set i (bkI ps up down i)) j = elAt (bkL ps up down (i + 1)) j := by
      simp [elAt, Ne.symm e]
    rw [h1, bkL_at hj, bkL_at hj]
    by_cases h : i ≤ j
    · rw [if_pos h, if_pos (by omega)]
    · rw [if_neg h, if_neg (by omega)]
/-- Whether at each place some height leads on. -/
def bkB (ps : List Po) (up down : Int) : Bool := decide (∀ i, i < ps.length → ¬ (bkI ps up down i).a2 < (bkI ps up down i).a1)

/-- The way from a first height on. -/
def prA (ps : List Po) (up down first : Int) : Nat → Int
  | 0 => first
  | i + 1 => max (max (bkI ps up down (i + 1)).a1 (prA ps up down first i - down * ((elAt ps (i + 1)).a0 - (elAt ps i).a0)))
      (min (min (bkI ps up down (i + 1)).a2 (prA ps up down first i + up * ((elAt ps (i + 1)).a0 - (elAt ps i).a0))) (prA ps up down first i))
def prL (ps : List Po) (up down first : Int) (k : Nat) : List Int := (List.range k).map (prA ps up down first)
/-- The answers of Profile. -/
def pfB (ps : List Po) (up down first : Int) : Bool := poB ps && slB up down && bkB ps up down && inB first (bkI ps up down 0).a1 (bkI ps up down 0).a2
def pfL (ps : List Po) (up down first : Int) : List Int := if pfB ps up down first = true then prL ps up down first ps.length else []

end Go.Proofs.Ytbaocifpifbldae
