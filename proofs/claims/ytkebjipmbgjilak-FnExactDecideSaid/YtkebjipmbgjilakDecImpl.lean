/-
  What the program's suffices and Decide answer: as the plain functions. At every argument; nothing that was there is written.
-/
import Derived.Test.YtkebjipmbgjilakStopImpl
namespace Go.Proofs.Ytkebjipmbgjilak
open Go.RowKit

set_option maxHeartbeats 2000000 in
theorem suffices_any (p d s e v lift way : Int) (w : World) :
    Calls Try.prog 36 #[.agg #[.int .i64 p, .int .i64 d, .int .i64 s, .int .i64 e], .int .i64 v, .int .i64 lift, .int .i64 way] w fun x w' => x = .returned (.bool (suffB p d s e lift way v)) ∧ Below w.heap.size w w' := by
  have B0 := hide (bel1 (w := w) (Obj.cells #[.int .i64 p, .int .i64 d, .int .i64 s, .int .i64 e] 26))
  have R0 := Rn.new (w := w) p d s e 26
  have HE : Hid (suffB p d s e lift way v = ((rollR p d s e v lift).2.2 && (stopR p d s e v).2 && decide ((rollR p d s e v lift).1 ≤ way) && decide ((stopR p d s e v).1 ≤ way))) := hide rfl
  go_enter Try.func36, Try.ntmps36
  go_wp2_with fail
  refine (implRolls_any p d s e v lift _).mono ?_
  rintro x w1 ⟨rfl, b1⟩
  have R1 := R0.below b1
  have B1 := hide ((unhide B0).trans (b1.mono (by simp)))
  have c0 := R1.c0
  have c1 := R1.c1
  have c2 := R1.c2
  have c3 := R1.c3
  clear b1 R0 R1
  go_wp2_with fail
  refine (implStops_any p d s e v _).mono ?_
  rintro x w2 ⟨rfl, b2⟩
  have B2 := hide ((unhide B1).trans (b2.mono (unhide B1).size))
  clear b2 c0 c1 c2 c3
  generalize rollR p d s e v lift = R at *
  generalize stopR p d s e v = Q at *
  obtain ⟨A, T, f⟩ := R
  obtain ⟨B, g⟩ := Q
  simp only at HE ⊢
  cases f
  · have HZ := hide ((unhide HE).trans (show _ = false by simp))
    go_wp2
    go_ret
    exact ⟨ret_bool (unhide HZ).symm, unhide B2⟩
  cases g
  · have HZ := hide ((unhide HE).trans (show _ = false by simp))
    go_wp2
    go_ret
    exact ⟨ret_bool (unhide HZ).symm, unhide B2⟩
  by_cases h1 : A ≤ way <;> by_cases h2 : B ≤ way
  all_goals
    have HZ := hide ((unhide HE).trans (show _ = _ by simp [h1, h2]; exact rfl))
    go_wp2
    go_ret
    exact ⟨ret_bool (unhide HZ).symm, unhide B2⟩

/-- What the program's loop has found among the first k speeds. -/
def FoundAt (p d s e lift way : Int) (k : Nat) (a b : Int) (f : Bool) : Prop :=
  (lowS p d s e lift way k < 0 ∧ a = 0 ∧ b = 0 ∧ f = false) ∨ (0 ≤ lowS p d s e lift way k ∧ a = lowS p d s e lift way k ∧ b = highS p d s e lift way k ∧ f = true)
theorem FoundAt.no {p d s e lift way : Int} {k : Nat} {a b : Int} {f : Bool} (h : FoundAt p d s e lift way k a b f) (hs : suffB p d s e lift way k = false) : FoundAt p d s e lift way (k + 1) a b f := by
  unfold FoundAt lowS highS
  rw [hs]
  exact h
theorem FoundAt.first {p d s e lift way : Int} {k : Nat} {a b : Int} (h : FoundAt p d s e lift way k a b false) (hs : suffB p d s e lift way k = true) : FoundAt p d s e lift way (k + 1) k k true := by
  unfold FoundAt lowS highS
  rw [hs]
  rcases h with ⟨h, _⟩ | ⟨_, _, _, h⟩
  · refine .inr ⟨?_, ?_, ?_, rfl⟩ <;> simp [h]
  · cases h
theorem FoundAt.more {p d s e lift way : Int} {k : Nat} {a b : Int} (h : FoundAt p d s e lift way k a b true) (hs : suffB p d s e lift way k = true) : FoundAt p d s e lift way (k + 1) a k true := by
  unfold FoundAt lowS highS
  rw [hs]
  rcases h with ⟨_, _, _, h⟩ | ⟨h, h2, _, _⟩
  · cases h
  · have h3 : ¬ lowS p d s e lift way k < 0 := by omega
    refine .inr ⟨?_, ?_, ?_, rfl⟩ <;> simp [h3, h2, h]
theorem FoundAt.end_ {p d s e lift way : Int} {k : Nat} {a b : Int} {f : Bool} (h : FoundAt p d s e lift way k a b f) (hk : lift.toNat + 1 = k) (ho : decOk p d s e lift way = true) : decR p d s e lift way = (a, b, f) := by
  rw [decR_yes ho, hk]
  rcases h with ⟨h, rfl, rfl, rfl⟩ | ⟨h, rfl, rfl, rfl⟩
  · rw [if_pos h]
  · rw [if_neg (by omega)]

set_option maxHeartbeats 2000000 in
theorem implDecide_any (p d s e lift way : Int) (w : World) :
    Calls Try.prog 14 #[.agg #[.int .i64 p, .int .i64 d, .int .i64 s, .int .i64 e], .int .i64 lift, .int .i64 way] w fun x w' => x = .returned (.tuple #[.int .i64 (decR p d s e lift way).1, .int .i64 (decR p d s e lift way).2.1, .bool (decR p d s e lift way).2.2]) ∧ Below w.heap.size w w' := by
  have R0 := hide (Rn.new (w := w) p d s e 26)
  have B0 := hide (bel1 (w := w) (Obj.cells #[.int .i64 p, .int .i64 d, .int .i64 s, .int .i64 e] 26))
  rcases three (runB p d s e) (inB lift 1 400) (inB way 0 10000000) with ⟨h, hv⟩ | ⟨h, h', hv⟩ | ⟨h, h', h'', hv⟩ | ⟨h, h', h'', hv⟩
  iterate 3
    have HE := hide (decR_no (p := p) (d := d) (s := s) (e := e) (lift := lift) (way := way) hv)
    clear hv
    go_enter Try.func14, Try.ntmps14
    go_wp2_with fail
    refine (implRunnerOk_is _ _ _ _ _ h).mono ?_
    rintro x w1 ⟨rfl, b1⟩
    have B1 := hide ((unhide B0).trans (b1.mono (by simp)))
    clear b1
    go_wp2_with (go_at_call 33; refine (within_any _ _ _ _).mono ?_; rintro e w' ⟨rfl, hw⟩; subst w')
    go_ret3
    exact ⟨ret_three (unhide HE).symm, unhide B1⟩
  have HO : Hid (decOk p d s e lift way = true) := hide hv
  have hl : 1 ≤ lift ∧ lift ≤ 400 := by simpa [inB] using h'
  clear hv
  go_enter Try.func14, Try.ntmps14
  go_wp2_with fail
  refine (implRunnerOk_is _ _ _ _ _ h).mono ?_
  rintro x w1 ⟨rfl, b1⟩
  have B1 := hide ((unhide B0).trans (b1.mono (by simp)))
  have R1 := hide ((unhide R0).below b1)
  clear b1
  go_wp2_with (go_at_call 33; refine (within_any _ _ _ _).mono ?_; rintro e w' ⟨rfl, hw⟩; subst w')
  clear h h' h''
  go_loopw [9, 10, 11, 28] (fun le gr fo i wr => ∃ (a b : Int) (f : Bool) (k : Nat), le = .int .i64 a ∧ gr = .int .i64 b ∧ fo = .bool f ∧ i = .int .i64 k ∧ (k : Int) ≤ lift + 1 ∧ Hid (FoundAt p d s e lift way k a b f) ∧ Rn wr w.heap.size p d s e ∧ Below w.heap.size w wr) (fun _ _ _ i _ => (lift + 1 - intOf i).toNat)
  case atStart => exact ⟨0, 0, false, 0, rfl, rfl, rfl, rfl, by omega, hide (.inl ⟨by simp [lowS], rfl, rfl, rfl⟩), unhide R1, unhide B1⟩
  case round =>
    clear R1 B1 R0 B0
    obtain ⟨a, b, f, k, rfl, rfl, rfl, rfl, hk, hfo, hrn, hbel⟩ := hrel
    have c0 := hrn.c0
    have c1 := hrn.c1
    have c2 := hrn.c2
    have c3 := hrn.c3
    have HR := hide hrn
    have HB := hide hbel
    clear hrn hbel
    by_cases h1 : (k : Int) < lift + 1
    · go_wp2_with fail
      refine (suffices_any p d s e k lift way _).mono ?_
      rintro x w2 ⟨rfl, b2⟩
      have HR2 := hide ((unhide HR).below b2)
      have HB2 := hide ((unhide HB).trans (b2.mono (unhide HB).size))
      clear b2 c0 c1 c2 c3
      cases hs : suffB p d s e lift way k
      · have HF := hide ((unhide hfo).no hs)
        clear hs
        go_wp2
        go_roundw
        case rel => exact ⟨a, b, f, k + 1, by first | rfl | trivial, by first | rfl | trivial, by first | rfl | trivial, by go_num, by omega, HF, unhide HR2, unhide HB2⟩
        case measure => simp [intOf]; omega
      · cases f
        · have HF := hide ((unhide hfo).first hs)
          clear hs
          go_wp2
          go_roundw
          case rel => exact ⟨k, k, true, k + 1, by first | rfl | trivial, by first | rfl | trivial, by first | rfl | trivial, by go_num, by omega, HF, unhide HR2, unhide HB2⟩
          case measure => simp [intOf]; omega
        · have HF := hide ((unhide hfo).more hs)
          clear hs
          go_wp2
          go_roundw
          case rel => exact ⟨a, k, true, k + 1, by first | rfl | trivial, by first | rfl | trivial, by first | rfl | trivial, by go_num, by omega, HF, unhide HR2, unhide HB2⟩
          case measure => simp [intOf]; omega
    · have HE := hide ((unhide hfo).end_ (by omega) (unhide HO))
      go_wp2
      go_ret3
      exact ⟨ret_three (unhide HE).symm, unhide HB⟩

end Go.Proofs.Ytkebjipmbgjilak
