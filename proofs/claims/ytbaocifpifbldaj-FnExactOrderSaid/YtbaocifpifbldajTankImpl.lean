/-
  What the program's tests of tanks and of a burn, and its copy of tanks, answer: the plain tests; a new list like the old one. Nothing that was there is written.
-/
import Derived.Test.YtbaocifpifbldajBurnPure
import Derived.Test.YtbaocifpifbldajLoad
import Derived.Laws.AppendOwn
namespace Go.Proofs.Ytbaocifpifbldaj
open Go.RowKit

set_option maxHeartbeats 1000000 in
theorem tanksOk_any (ad : Option Addr) (len cap : Nat) (ps : List (Int × Int)) (w : World) (hr : Row2 w ad len ps) :
    Calls Try.prog 53 #[.slice ad len cap] w fun e w' => e = .returned (.bool (tanksB ps)) ∧ Below w.heap.size w w' := by
  have hz := hr.len_eq
  have hs := hr.small
  have HO := hide hr.open_
  clear hr
  subst hz
  by_cases h8 : ps.length ≤ 8
  · have h8' : ¬ (8 : Int) < (ps.length : Int) := by omega
    go_enter Try.func53, Try.ntmps53
    go_wp2
    go_loopw [10] (fun i wr => ∃ k : Nat, k ≤ ps.length ∧ i = .int .i64 k ∧ Hid (∀ j, j < k → itemB (fstAt ps j) (sndAt ps j) = true) ∧ Below w.heap.size w wr) (fun i _ => ps.length - (intOf i).toNat)
    case atStart => exact ⟨0, Nat.zero_le _, rfl, (fun j hj => by omega), Below.refl _ _⟩
    case round =>
      obtain ⟨k, hk, rfl, hall, hbel⟩ := hrel
      have HB := hide hbel
      clear hbel
      by_cases hlt : k < ps.length
      · rcases (unhide HO) with ⟨h0, _⟩ | ⟨bb, off, rfl, _, hc⟩
        · omega
        obtain ⟨ca, cb⟩ := hc k hlt
        have ca := ((unhide HB).cell (block_lt_of_cell ca)).trans ca
        have cb := ((unhide HB).cell (block_lt_of_cell cb)).trans cb
        have lca := block_lt_of_cell ca
        have hi1 : (k : Int) < (ps.length : Int) := by omega
        have HB1 := hide ((unhide HB).alloc (unhide HB).size (Obj.cells #[Value.int IntKind.i64 (fstAt ps k), Value.int IntKind.i64 (sndAt ps k)] 78))
        clear hc
        cases hm : itemB (fstAt ps k) (sndAt ps k)
        · have HE := hide (tanks_bad hlt hm)
          go_wp2_with (go_at_call 67; refine (loadOk_is _ _ _ hm).mono ?_; rintro e w' ⟨rfl, hw⟩; subst w')
          go_ret
          exact ⟨ret_bool (unhide HE).symm, unhide HB1⟩
        · have HE := hide hm
          go_wp2_with (go_at_call 67; refine (loadOk_is _ _ _ hm).mono ?_; rintro e w' ⟨rfl, hw⟩; subst w')
          go_roundw
          case rel => exact ⟨k + 1, by omega, by go_num, (fun j hj => by rcases Nat.lt_succ_iff_lt_or_eq.1 hj with h | h; exact hall.out j h; subst h; exact unhide HE), unhide HB1⟩
          case measure => simp [intOf]; omega
      · have HE := hide (tanks_good h8 fun j hj => hall.out j (by omega))
        go_wp2
        go_ret
        exact ⟨ret_bool (unhide HE).symm, unhide HB⟩
  · have h8' : (8 : Int) < (ps.length : Int) := by omega
    have HE := hide (tanks_many h8)
    go_enter Try.func53, Try.ntmps53
    go_wp2
    go_ret
    exact ⟨ret_bool (unhide HE).symm, Below.refl _ _⟩
theorem tanksOk_is {c : Bool} (ad : Option Addr) (len cap : Nat) (ps : List (Int × Int)) (w : World) (hc : tanksB ps = c) (hr : Row2 w ad len ps) :
    Calls Try.prog 53 #[.slice ad len cap] w fun e w' => e = .returned (.bool c) ∧ Below w.heap.size w w' := by
  subst hc; exact tanksOk_any ad len cap ps w hr

set_option maxHeartbeats 1000000 in
theorem canBurn_any (ad : Option Addr) (len cap : Nat) (ps : List (Int × Int)) (t n : Int) (w : World) (hr : Row2 w ad len ps) (h8 : len ≤ 8) :
    Calls Try.prog 55 #[.slice ad len cap, .agg #[.int .i64 t, .int .i64 n]] w fun e w' => e = .returned (.bool (canB ps t n)) ∧ Below w.heap.size w w' := by
  have hz := hr.len_eq
  have HO := hide (hr.alloc (Obj.cells #[Value.int IntKind.i64 t, Value.int IntKind.i64 n] 76)).open_
  clear hr
  subst hz
  have hwr : IntKind.i64.wrap ((ps.length : Int) - 1) = (ps.length : Int) - 1 := by rw [IntKind.wrap_i64]; omega
  rcases two (inB t 0 ((ps.length : Int) - 1)) (inB n 1 10000) with ⟨h, hv⟩ | ⟨h, h', hv⟩ | ⟨h, h', hv⟩
  · have HE : Hid (canB ps t n = false) := hide (by simp [canB, h])
    clear hv
    go_enter Try.func55, Try.ntmps55
    go_wp2
    go_quiet ((go_at_call 42; exact Calls.quiet_of_same (within_is _ _ _ _ h)))
    go_wp2
    go_ret
    exact ⟨ret_bool (unhide HE).symm, bel1d _ _⟩
  · have HE : Hid (canB ps t n = false) := hide (by simp [canB, h'])
    clear hv
    go_enter Try.func55, Try.ntmps55
    go_wp2
    go_quiet ((go_at_call 42; exact Calls.quiet_of_same (within_is _ _ _ _ (by first | exact h | exact h'))))
    go_wp2
    go_ret
    exact ⟨ret_bool (unhide HE).symm, bel1d _ _⟩
  · have HE : Hid (canB ps t n = decide (n ≤ fstAt ps t.toNat)) := hide (by simp [canB, h, h'])
    clear hv
    have ht := in_facts h
    rcases (unhide HO) with ⟨h0, _⟩ | ⟨bb, off, rfl, _, hc⟩
    · omega
    obtain ⟨k, rfl⟩ : ∃ k : Nat, t = k := ⟨t.toNat, by omega⟩
    have HE : Hid (canB ps k n = decide (n ≤ fstAt ps k)) := hide (by rw [unhide HE]; simp)
    obtain ⟨ca, cb⟩ := hc k (by omega)
    have hi1 : (k : Int) < (ps.length : Int) := by omega
    have hi0 : (0 : Int) ≤ (k : Int) := by omega
    clear hc
    by_cases hle : n ≤ fstAt ps k
    all_goals
      go_enter Try.func55, Try.ntmps55
      go_wp2
      go_quiet ((go_at_call 42; exact Calls.quiet_of_same (within_is _ _ _ _ (by first | exact h | exact h'))))
      go_wp2
      go_ret
      exact ⟨ret_bool (by rw [unhide HE]; try simp; try omega), bel1d _ _⟩
theorem canBurn_is {c : Bool} (ad : Option Addr) (len cap : Nat) (ps : List (Int × Int)) (t n : Int) (w : World) (hr : Row2 w ad len ps) (h8 : len ≤ 8) (hc : canB ps t n = c) :
    Calls Try.prog 55 #[.slice ad len cap, .agg #[.int .i64 t, .int .i64 n]] w fun e w' => e = .returned (.bool c) ∧ Below w.heap.size w w' := by
  subst hc; exact canBurn_any ad len cap ps t n w hr h8

theorem infoTank : (Try.prog.info? 78).map (fun i => (i.zero, i.size, i.bytes)) = some (some (.agg #[.int .i64 0, .int .i64 0]), 2, 16) := by kernel_rfl

/-- A list made of nothing. -/
theorem owns_none (w : World) (T : TypeId) : (w.alloc (Obj.cells #[] T)).ownsRow w.heap.size T 2 (.slice (some ⟨w.heap.size, 0, none⟩) 0 0) 0 [] := by
  refine ⟨rfl, .inr ⟨_, _, #[], rfl, Nat.le_refl _, ?_, Nat.le_refl _, by simp [maxLen], rfl, rfl⟩⟩
  show (w.heap.push _)[w.heap.size]? = _
  simp

set_option maxHeartbeats 1000000 in
theorem copyTanks_any (b off len cap : Nat) (ps : List (Int × Int)) (w : World) (hr : Row2 w (some ⟨b, off, none⟩) len ps) (h8 : len ≤ 8) :
    Calls Try.prog 54 #[.slice (some ⟨b, off, none⟩) len cap] w fun e w' => ∃ a c, e = .returned (.slice a len c) ∧ Own2 w' w.heap.size 78 (.slice a len c) ps ∧ Below w.heap.size w w' := by
  have hz := hr.len_eq
  have HF := hide hr.fit
  have HC := hide (flat_cells (hr.alloc (Obj.cells #[] 78)))
  clear hr
  subst hz
  obtain ⟨i0, hi, hz0, hz1, hz2⟩ := info_parts infoTank
  go_enter Try.func54, Try.ntmps54
  go_wp2_with (at_builtin; refine wpList_append_own _ rfl _ _ 41 rfl w.heap.size 78 i0 (.agg #[.int .i64 0, .int .i64 0]) 2 16 Try.underlying41 hi hz0 hz1 hz2 rfl (by decide) (.slice (some ⟨w.heap.size, 0, none⟩) 0 0) 0 [] rfl (owns_none w _) ⟨b, off, none⟩ ps.length cap (flat ps) rfl (flat_len ps) (unhide HC) (flat_one ps) (by unfold maxLen; omega) (by omega) (by simp) ?_; intro v1 w1 hown hgrow hnil)
  rw [Nat.zero_add, List.nil_append] at hown
  have O := own2_flat hown (unhide HF)
  obtain ⟨a, c, rfl, _, _⟩ := O.slice
  go_ret
  exact ⟨a, c, rfl, O, (bel1 _).grown hgrow (by simp) (fun k hk => by simp [Value.ownBlock] at hk; omega)⟩

end Go.Proofs.Ytbaocifpifbldaj
