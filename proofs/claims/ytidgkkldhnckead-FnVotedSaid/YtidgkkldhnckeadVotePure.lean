/-
  What Vote tells, in plain numbers. No program here.
-/
import Derived.Test.YtidgkkldhnckeadVtFive
import Derived.Test.YtidgkkldhnckeadVtJud
namespace Go.Proofs.Ytidgkkldhnckead
open Go

/-- The lanes' lists behind a round that came with the middle value x. -/
def fiveJO (n h : Int) (bs : List Bool) (os zs : List Int) (x : Int) : List Bool := [jdO n h (laneO bs 0) (nth os 0) (nth zs 0) x, jdO n h (laneO bs 1) (nth os 1) (nth zs 1) x, jdO n h (laneO bs 2) (nth os 2) (nth zs 2) x, jdO n h (laneO bs 3) (nth os 3) (nth zs 3) x, jdO n h (laneO bs 4) (nth os 4) (nth zs 4) x]
def fiveJD (n h : Int) (bs : List Bool) (os zs : List Int) (x : Int) : List Int := [jdD n h (laneO bs 0) (nth os 0) (nth zs 0) x, jdD n h (laneO bs 1) (nth os 1) (nth zs 1) x, jdD n h (laneO bs 2) (nth os 2) (nth zs 2) x, jdD n h (laneO bs 3) (nth os 3) (nth zs 3) x, jdD n h (laneO bs 4) (nth os 4) (nth zs 4) x]
def votMid (n h : Int) (bs : List Bool) (os zs : List Int) : Bool := seenB n h bs os zs && (valC (heardS bs zs) == 3)
def votX (n h : Int) (bs : List Bool) (os zs : List Int) : Int := if seenB n h bs os zs = true then valX (heardS bs zs) else 0
def votC (n h : Int) (bs : List Bool) (os zs : List Int) : Int := if seenB n h bs os zs = true then valC (heardS bs zs) else 0
def votOut (n h : Int) (bs : List Bool) (os zs : List Int) : List Bool := if votMid n h bs os zs = true then (fiveJO n h bs os zs (valX (heardS bs zs))).take bs.length else bs
def votOdd (n h : Int) (bs : List Bool) (os zs : List Int) : List Int := if votMid n h bs os zs = true then (fiveJD n h bs os zs (valX (heardS bs zs))).take bs.length else os
theorem vot_bad {n h : Int} {bs : List Bool} {os zs : List Int} (e : seenB n h bs os zs = false) : votOut n h bs os zs = bs ∧ votOdd n h bs os zs = os ∧ votX n h bs os zs = 0 ∧ votC n h bs os zs = 0 := by
  simp [votOut, votOdd, votX, votC, votMid, e]
theorem vot_few {n h : Int} {bs : List Bool} {os zs : List Int} (e : seenB n h bs os zs = true) (e2 : (valC (heardS bs zs) == 3) = false) : votOut n h bs os zs = bs ∧ votOdd n h bs os zs = os ∧ votX n h bs os zs = valX (heardS bs zs) ∧ votC n h bs os zs = valC (heardS bs zs) := by
  simp [votOut, votOdd, votX, votC, votMid, e, e2]
theorem vot_mid {n h : Int} {bs : List Bool} {os zs : List Int} (e : seenB n h bs os zs = true) (e2 : (valC (heardS bs zs) == 3) = true) : votOut n h bs os zs = (fiveJO n h bs os zs (valX (heardS bs zs))).take bs.length ∧ votOdd n h bs os zs = (fiveJD n h bs os zs (valX (heardS bs zs))).take bs.length ∧ votX n h bs os zs = valX (heardS bs zs) ∧ votC n h bs os zs = valC (heardS bs zs) := by
  simp only [votOut, votOdd, votX, votC, votMid, e, e2]; simp
theorem fiveO_take {bs : List Bool} (h : bs.length ≤ 5) : (fiveO bs).take bs.length = bs := by
  apply List.ext_getElem (by simp [fiveO]; omega)
  intro i h1 h2
  have e := fiveO_at bs i (by omega)
  have hi : i < (fiveO bs).length := by simp [fiveO]; omega
  simp only [elAt, List.getElem?_eq_getElem hi, Option.getD_some, laneO, h2, if_true, List.getElem?_eq_getElem h2] at e
  simpa using e
theorem fiveI_take {os : List Int} {L : Nat} (h : os.length = L) (h5 : L ≤ 5) : (fiveI os).take L = os := by
  apply List.ext_getElem (by simp [fiveI]; omega)
  intro i h1 h2
  have e := fiveI_at os i (by omega)
  have hi : i < (fiveI os).length := by simp [fiveI]; omega
  simp only [nth, List.getElem?_eq_getElem hi, Option.getD_some, List.getElem?_eq_getElem h2] at e
  simpa using e
theorem valX_in {H : List Int} (h : ∀ i, i < H.length → -1000000 ≤ nth H i ∧ nth H i ≤ 1000000) : -1000000 ≤ valX H ∧ valX H ≤ 1000000 := by
  unfold valX
  by_cases e : H.length = 0
  · rw [if_pos e]; omega
  · rw [if_neg e]
    have a := h ((H.length - 1) / 2) (by omega)
    have b := h (H.length / 2) (by omega)
    omega
theorem jdD_in {n h : Int} {o : Bool} {d s x : Int} (hd : 0 ≤ d ∧ d ≤ 20) (hh : 1 ≤ h ∧ h ≤ 20) : 0 ≤ jdD n h o d s x ∧ jdD n h o d s x ≤ 20 := by
  unfold jdD; split
  · exact hd
  · split <;> omega

end Go.Proofs.Ytidgkkldhnckead
