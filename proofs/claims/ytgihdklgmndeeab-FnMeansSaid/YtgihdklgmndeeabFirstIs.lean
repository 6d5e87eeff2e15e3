/-
  What FirstOver answers in the specification and in the program: the plain place. No condition; nothing that was there is written.
-/
import Derived.Test.YtgihdklgmndeeabFirstPure
import Derived.Deep.DrawnRows
namespace Go.Proofs.Ytgihdklgmndeeab
open Go.RowKit
attribute [local go_sem] run_store_float

set_option maxHeartbeats 1000000 in
theorem implFirstOver_any (ad : Option Addr) (len cap : Nat) (ps : List Mo) (sp : Nat) (w : World) (hr : RowE 4 moC w ad len ps) :
    Calls Try.prog 45 #[.slice ad len cap, .float .f64 sp] w fun e w' => e = .returned (.int .i64 (firstN ps sp)) ∧ Below w.heap.size w w' := by
  have hz := hr.len_eq
  have hs := hr.small
  have HO := hide hr.open_
  clear hr
  subst hz
  go_enter Try.func45, Try.ntmps45
  go_wp2
  go_loopw [9] (fun i wr => ∃ k : Nat, k ≤ ps.length ∧ i = .int .i64 k ∧ (∀ j, j < k → overAt ps sp j = false) ∧ Below w.heap.size w wr) (fun i _ => ps.length - (intOf i).toNat)
  case atStart => exact ⟨0, Nat.zero_le _, rfl, fun j hj => by omega, Below.refl _ _⟩
  case round =>
    obtain ⟨k, hk, rfl, hno, hbel⟩ := hrel
    have HN := hide hno
    have HB := hide hbel
    have zw := hbel.size
    by_cases hlt : k < ps.length
    · rcases (unhide HO) with ⟨h0, _⟩ | ⟨bb, off, rfl, _, hc⟩
      · omega
      have c0 : w.cell? ⟨bb, off + k * 4, none⟩ = some (.float .f64 (elAt ps k).a0) := hc k hlt 0 (by omega)
      have c1 : w.cell? ⟨bb, off + k * 4 + 1, none⟩ = some (.float .f64 (elAt ps k).a1) := hc k hlt 1 (by omega)
      have c2 : w.cell? ⟨bb, off + k * 4 + 2, none⟩ = some (.float .f64 (elAt ps k).a2) := hc k hlt 2 (by omega)
      have c3 : w.cell? ⟨bb, off + k * 4 + 3, none⟩ = some (.float .f64 (elAt ps k).a3) := hc k hlt 3 (by omega)
      have c0 := (hbel.cell (block_lt_of_cell c0)).trans c0
      have c1 := (hbel.cell (block_lt_of_cell c1)).trans c1
      have c2 := (hbel.cell (block_lt_of_cell c2)).trans c2
      have c3 := (hbel.cell (block_lt_of_cell c3)).trans c3
      have hi1 : (k : Int) < (ps.length : Int) := by omega
      clear hc hno hbel
      cases ho : FloatKind.f64.format.order (elAt ps k).a0 sp == some .gt with
      | true =>
        have HF := hide (firstN_hit ps sp k hlt ho (unhide HN))
        go_wp2
        go_ret
        refine ⟨by rw [unhide HF]; rfl, ?_⟩
        repeat (first | exact unhide HB | refine Below.setCell ?_ zw _ | refine Below.alloc ?_ zw _)
      | false =>
        go_wp2
        go_roundw
        case rel => exact ⟨k + 1, by omega, by go_num, fun j hj => by
                      rcases Nat.lt_or_ge j k with h | h
                      · exact unhide HN j h
                      · obtain rfl : j = k := by omega
                        exact ho, by repeat (first | exact unhide HB | refine Below.setCell ?_ zw _ | refine Below.alloc ?_ zw _)⟩
        case measure => simp [intOf]; omega
    · have HF := hide (firstN_none ps sp (fun j hj => hno j (by omega)))
      clear hno hbel
      go_wp2
      go_ret
      exact ⟨by rw [unhide HF]; rfl, unhide HB⟩

end Go.Proofs.Ytgihdklgmndeeab
