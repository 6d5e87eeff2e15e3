/-
  What Damped answers in the specification and in the program: the plain number and flag. No condition; nothing that was there is written.
-/
import Derived.Test.YtomcbbpaajpeiaaChecked
import Derived.Test.YtomcbbpaajpeiaaMDampPure
import Derived.Test.YtomcbbpaajpeiaaFlWalk
import Derived.Deep.DrawnRows
namespace Go.Proofs.Ytomcbbpaajpeiaa
open Go.RowKit
attribute [local go_sem] run_store_float run_store_complex

set_option maxHeartbeats 4000000 in
theorem implDamped_any (ad : Option Addr) (len cap : Nat) (ps : List (Nat × Nat)) (w : World) (hr : RowC w ad len ps) :
    Calls Try.prog 15 #[.slice ad len cap] w fun e w' => e = .returned (.tuple #[.int .i64 (dampN ps), .bool (dampB ps)]) ∧ Below w.heap.size w w' := by
  have hz := hr.len_eq
  have hs := hr.small
  have HO := hide hr.open_
  clear hr
  subst hz
  by_cases hlen : ps.length ≤ 12
  · go_enter Try.func15, Try.ntmps15
    go_wp2
    go_loopw [4, 12] (fun n i wr => ∃ k : Nat, k ≤ ps.length ∧ i = .int .i64 k ∧ n = .int .i64 (dampTo ps k) ∧ seenTo ps k = true ∧ Below w.heap.size w wr) (fun _ i _ => ps.length - (intOf i).toNat)
    case atStart => exact ⟨0, Nat.zero_le _, rfl, rfl, rfl, Below.refl _ _⟩
    case round =>
      obtain ⟨k, hk, rfl, rfl, hseen, hbel⟩ := hrel
      have HB := hide hbel
      clear hbel
      have hle := dampTo_le ps k
      by_cases hlt : k < ps.length
      · rcases (unhide HO) with ⟨h0, _⟩ | ⟨bb, off, rfl, _, hc⟩
        · omega
        obtain ⟨ca, cb⟩ := hc k hlt
        have ca := ((unhide HB).cell (block_lt_of_cell ca)).trans ca
        have cb := ((unhide HB).cell (block_lt_of_cell cb)).trans cb
        have hi1 : (0 : Int) ≤ (k : Int) := by omega
        have hi2 : (k : Int) < (ps.length : Int) := by omega
        have HSN := hide hseen
        clear hc hseen
        cases na : nanB .f64 (reAt ps k) with
        | true =>
          have hno : dampB ps = false := dampB_no (j := k) (by unfold nanAt; rw [na]; simp) hlt
          have hno2 : dampN ps = 0 := by unfold dampN; rw [hno]; rfl
          have HN := hide (And.intro hno hno2)
          clear hno hno2
          go_wp2_with (go_at_call 24; refine (isNaN_is _ _).mono ?_; rintro e w9 ⟨rfl, hw9⟩; subst w9)
          go_ret2
          refine ⟨by rw [(unhide HN).1, (unhide HN).2]; rfl, ?_⟩
          repeat (first | exact unhide HB | refine Below.setCell ?_ (unhide HB).size _ | refine Below.alloc ?_ (unhide HB).size _)
        | false =>
          cases nb : nanB .f64 (imAt ps k) with
          | true =>
            have hno : dampB ps = false := dampB_no (j := k) (by unfold nanAt; rw [na, nb]; simp) hlt
            have hno2 : dampN ps = 0 := by unfold dampN; rw [hno]; rfl
            have HN := hide (And.intro hno hno2)
            clear hno hno2
            go_wp2_with (go_at_call 24; refine (isNaN_is _ _).mono ?_; rintro e w9 ⟨rfl, hw9⟩; subst w9)
            go_ret2
            refine ⟨by rw [(unhide HN).1, (unhide HN).2]; rfl, ?_⟩
            repeat (first | exact unhide HB | refine Below.setCell ?_ (unhide HB).size _ | refine Below.alloc ?_ (unhide HB).size _)
          | false =>
            have HSN2 : Hid (seenTo ps (k + 1) = true) := hide (by rw [seenTo_succ, unhide HSN]; unfold nanAt; rw [na, nb]; rfl)
            cases lo : (FloatKind.f64.format.order (reAt ps k) 0 == some .lt) with
            | true =>
              have HD : Hid ((dampTo ps (k + 1) : Int) = dampTo ps k + 1) := hide (by rw [dampTo_succ, show lowAt ps k = true from lo]; rfl)
              go_wp2_with (go_at_call 24; refine (isNaN_is _ _).mono ?_; rintro e w9 ⟨rfl, hw9⟩; subst w9)
              go_roundw
              case rel =>
                refine ⟨k + 1, by omega, by go_num, by rw [unhide HD]; try go_num, unhide HSN2, ?_⟩
                repeat (first | exact unhide HB | refine Below.setCell ?_ (unhide HB).size _ | refine Below.alloc ?_ (unhide HB).size _)
              case measure => simp [intOf]; omega
            | false =>
              have HD : Hid ((dampTo ps (k + 1) : Int) = dampTo ps k) := hide (by rw [dampTo_succ, show lowAt ps k = false from lo]; rfl)
              go_wp2_with (go_at_call 24; refine (isNaN_is _ _).mono ?_; rintro e w9 ⟨rfl, hw9⟩; subst w9)
              go_roundw
              case rel =>
                refine ⟨k + 1, by omega, by go_num, by rw [unhide HD], unhide HSN2, ?_⟩
                repeat (first | exact unhide HB | refine Below.setCell ?_ (unhide HB).size _ | refine Below.alloc ?_ (unhide HB).size _)
              case measure => simp [intOf]; omega
      · have hkk : k = ps.length := by omega
        subst hkk
        have hyes : dampB ps = true := by unfold dampB; rw [hseen]; simpa using hlen
        have HN := hide (show dampB ps = true ∧ dampN ps = dampTo ps ps.length from ⟨hyes, by unfold dampN; rw [hyes]; rfl⟩)
        clear hyes hseen
        go_wp2
        go_ret2
        exact ⟨by rw [(unhide HN).1, (unhide HN).2]; rfl, unhide HB⟩
  · have hno : dampB ps = false := by unfold dampB; rw [decide_eq_false hlen]; rfl
    have hno2 : dampN ps = 0 := by unfold dampN; rw [hno]; rfl
    have HN := hide (And.intro hno hno2)
    clear hno hno2
    go_enter Try.func15, Try.ntmps15
    go_wp2
    go_ret2
    exact ⟨by rw [(unhide HN).1, (unhide HN).2]; rfl, Below.refl _ _⟩

end Go.Proofs.Ytomcbbpaajpeiaa
