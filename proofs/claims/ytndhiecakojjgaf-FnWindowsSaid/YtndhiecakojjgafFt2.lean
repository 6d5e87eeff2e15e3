/-
  What the model's Share answers: the plain answer, at every plan and partition; nothing that was there is written.
  What the model's FitWindow answers: the plain answer, in memory of its own, at a plan whose list is not nil and fills its room. At lists of at most 1048576; nothing that was there is written.
  What FitWindow answers, of both sides, as the laws want it; how long the answer's list is. The model's at a plan whose list is not nil and fills its room.
-/
import Derived.Test.YtndhiecakojjgafSq1
import Derived.Test.YtndhiecakojjgafPpOwn
import Derived.Test.YtndhiecakojjgafOwn1
import Derived.Test.YtndhiecakojjgafFar1
import Derived.Test.YtndhiecakojjgafFtImpl

namespace Go.Proofs.Ytndhiecakojjgaf
open Go.RowKit




end Go.Proofs.Ytndhiecakojjgaf

namespace Go.Proofs.Ytndhiecakojjgaf
open Go.RowKit

theorem rowE_take {w : World} {a : Option Addr} {len : Nat} {ps : List Wn} (h : RowE 3 wnC w a len ps) {k : Nat} (hk : k ≤ len) : RowE 3 wnC w a k (ps.take k) := by
  have hl := h.len_eq
  have hs := h.small
  refine ⟨by rw [List.length_take]; omega, by omega, fun i hi => ?_⟩
  obtain ⟨b, off, e, hc⟩ := h.at_ i (by omega)
  refine ⟨b, off, e, fun q hq => ?_⟩
  have e2 : elAt (ps.take k) i = elAt ps i := by unfold elAt; rw [List.getElem?_take, if_pos hi]
  rw [e2]; exact hc q hq
theorem rowE_drop {w : World} {bb len : Nat} {ps : List Wn} (h : RowE 3 wnC w (some ⟨bb, 0, none⟩) len ps) {k : Nat} (hk : k ≤ len) : RowE 3 wnC w (some ⟨bb, k * 3, none⟩) (len - k) (ps.drop k) := by
  have hl := h.len_eq
  have hs := h.small
  refine ⟨by rw [List.length_drop]; omega, by omega, fun i hi => ⟨bb, k * 3, rfl, fun q hq => ?_⟩⟩
  obtain ⟨b, off, e, hc⟩ := h.at_ (k + i) (by omega)
  simp only [Option.some.injEq, Addr.mk.injEq, and_true] at e
  obtain ⟨rfl, rfl⟩ := e
  have e2 : elAt (ps.drop k) i = elAt ps (k + i) := by unfold elAt; rw [List.getElem?_drop]
  have := hc q hq
  rw [e2, ← this]
  congr 2
  omega
theorem own_shapeL {w : World} {base : Nat} {T : TypeId} {v v0 : Value} {ps : List Wn} (h : OwnE 3 wnC w base T v ps) (hn : v = .slice none 0 0 → v0 = .slice none 0 0) (h0 : v0 ≠ .slice none 0 0) : ∃ g cp m, v = .slice (some ⟨g, 0, none⟩) m cp ∧ ps.length = m ∧ base ≤ g := by
  obtain ⟨g, cp, e, hb⟩ := own_shape h hn h0
  exact ⟨g, cp, _, e, rfl, hb⟩
theorem rowE_none {w : World} {a : Option Addr} : RowE 3 wnC w a 0 [] := ⟨rfl, by omega, fun i hi => by omega⟩


end Go.Proofs.Ytndhiecakojjgaf

namespace Go.Proofs.Ytndhiecakojjgaf
open Go.RowKit

theorem ftL_len (fr pa : Int) (ws : List Wn) (p lg : Int) {n : Nat} (h : ws.length ≤ n) (hn : 41 ≤ n) : (ftL fr pa ws p lg).length ≤ n := by
  cases hb : ftB fr pa ws p lg with
  | false => rw [ftL, hb]; exact h
  | true =>
    have hA : ftA fr pa ws p lg = true ∧ decide (ftK fr ws lg ≤ ws.length) = true := by
      rw [ftB, Bool.and_eq_true] at hb
      exact hb
    have hk := of_decide_eq_true hA.2
    have f := ftA_facts hA.1
    have l1 := (ppB_facts f.1).2.2.1
    rw [(ft_at hA.1 hk rfl).2, insL_is, insL_len hk]
    omega
theorem implFitWindow_any (fr pa : Int) (da : Option Addr) (dn dc : Nat) (ws : List Wn) (p lg : Int) (w : World) (hr : PpIn w da dn ws) (hl : dn ≤ 1048576) : Calls Try.prog 29 #[.agg #[.int .i64 fr, .int .i64 pa, .slice da dn dc], .int .i64 p, .int .i64 lg] w fun e w' => ∃ (a1 : Option Addr) (c1 : Nat), e = .returned (.tuple #[.agg #[.int .i64 fr, .int .i64 pa, .slice a1 (ftL fr pa ws p lg).length c1], .bool (ftB fr pa ws p lg)]) ∧ PpOwn w' w.heap.size a1 (ftL fr pa ws p lg).length c1 (ftL fr pa ws p lg) ∧ Below w.heap.size w w' := implFitWindow_is fr pa da dn dc ws p lg w hl hr.r1

end Go.Proofs.Ytndhiecakojjgaf
