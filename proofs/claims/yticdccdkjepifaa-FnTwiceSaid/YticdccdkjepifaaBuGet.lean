/-
  What the model's Get16 answers: a code, and the word of a frame that is well, its bytes in memory of their own. At every list of bytes; nothing that was there is written.
-/
import Derived.Test.YticdccdkjepifaaBuSpec
import Derived.Test.YticdccdkjepifaaMBuSum
import Derived.Test.YticdccdkjepifaaBuPut
import Derived.Test.YticdccdkjepifaaMAppR
namespace Go.Proofs.Yticdccdkjepifaa
open Go.RowKit

/-- The code of a frame; its word. -/
def gtC (zs : List Int) : Int :=
  if zs.length < 4 then 1 else if 32 < elAt zs 2 then 2 else if (zs.length : Int) < elAt zs 2 + 4 then 1 else if elAt zs 2 + 4 < (zs.length : Int) then 2
  else if elAt zs 0 = 0 then 3 else if ¬ elAt zs (zs.length - 1) = smB (zs.take (zs.length - 1)) then 4 else 0
def gtL (zs : List Int) : Int := if gtC zs = 0 then elAt zs 0 else 0
def gtS (zs : List Int) : Int := if gtC zs = 0 then elAt zs 1 else 0
def gtD (zs : List Int) : List Int := if gtC zs = 0 then (zs.drop 3).take (zs.length - 4) else []
theorem gt_no {zs : List Int} {c : Int} (h : gtC zs = c) (hc : ¬ c = 0) : gtL zs = 0 ∧ gtS zs = 0 ∧ gtD zs = [] := by
  subst h
  simp [gtL, gtS, gtD, hc]
theorem ownE_nl {α : Type} [Inhabited α] {K : Nat} {cells : α → Nat → Value} (w : World) (base : Nat) (T : TypeId) : OwnE K cells w base T (.slice none 0 0) ([] : List α) := ⟨⟨[], ⟨by simp, .inl ⟨rfl, rfl⟩⟩, fun j hj => by simp at hj⟩⟩






theorem elAt_takeB (zs : List Int) (k i : Nat) (h : i < k) : elAt (zs.take k) i = elAt zs i := by simp [elAt, h]
theorem rowE_takeB {w : World} {a : Option Addr} {len : Nat} {zs : List Int} (h : RowE 1 byC w a len zs) (k : Nat) (hk : k ≤ len) : RowE 1 byC w a k (zs.take k) := by
  have hz := h.len_eq
  have hs := h.small
  refine ⟨by simp; omega, by omega, fun i hi => ?_⟩
  obtain ⟨b, off, ha, hc⟩ := h.at_ i (by omega)
  exact ⟨b, off, ha, fun q hq => by rw [elAt_takeB zs k i hi]; exact hc q hq⟩
theorem rowE_dropB {w : World} {b off len : Nat} {zs : List Int} (h : RowE 1 byC w (some ⟨b, off, none⟩) len zs) (d k : Nat) (hk : d + k ≤ len) : RowE 1 byC w (some ⟨b, off + d, none⟩) k ((zs.drop d).take k) := by
  have hz := h.len_eq
  have hs := h.small
  refine ⟨by simp; omega, by omega, fun i hi => ⟨b, off + d, rfl, fun q hq => ?_⟩⟩
  obtain ⟨b', off', ha, hc⟩ := h.at_ (d + i) (by omega)
  simp only [Option.some.injEq, Addr.mk.injEq, and_true] at ha
  obtain ⟨rfl, rfl⟩ := ha
  have e : elAt ((zs.drop d).take k) i = elAt zs (d + i) := by simp [elAt, hi, List.getElem?_drop]
  rw [e]
  have := hc q hq
  rw [show off + d + i * 1 + q = off + (d + i) * 1 + q by omega]
  exact this


end Go.Proofs.Yticdccdkjepifaa
