/-
  A slice of slices of whole numbers read as a list of lists, and the law's size, comparison and copy of it (szIntSS, eqIntSS, toIntSS). No condition but the length at most 1048576 where it is copied.
-/
import Derived.Test.YthdnokilfmbgobcMake
namespace Go.Proofs.Ythdnokilfmbgobc
open Go.RowKit

def nthS (zss : List (List Int)) (i : Nat) : List Int := zss[i]?.getD []

structure RowS (w : World) (a : Option Addr) (len : Nat) (zss : List (List Int)) : Prop where
  len_eq : zss.length = len
  small : len ≤ 9223372036854775807
  cells : ∀ i, i < len → ∃ b off ai li ci, a = some ⟨b, off, none⟩ ∧ w.cell? ⟨b, off + i, none⟩ = some (.slice ai li ci) ∧ Row w ai li (nthS zss i) ∧ li ≤ ci

theorem RowS.open_ {w : World} {a : Option Addr} {len : Nat} {zss : List (List Int)} (h : RowS w a len zss) :
    (len = 0 ∧ zss = []) ∨ ∃ b off, a = some ⟨b, off, none⟩ ∧ 0 < len ∧ ∀ i, i < len → ∃ ai li ci, w.cell? ⟨b, off + i, none⟩ = some (.slice ai li ci) ∧ Row w ai li (nthS zss i) ∧ li ≤ ci := by
  by_cases h0 : len = 0
  · exact .inl ⟨h0, List.length_eq_zero_iff.1 (by rw [h.len_eq, h0])⟩
  · obtain ⟨b, off, _, _, _, ha, _⟩ := h.cells 0 (by omega)
    refine .inr ⟨b, off, ha, by omega, fun i hi => ?_⟩
    obtain ⟨b', off', ai, li, ci, ha', hc⟩ := h.cells i hi
    rw [ha] at ha'
    simp only [Option.some.injEq, Addr.mk.injEq] at ha'
    obtain ⟨rfl, rfl, _⟩ := ha'
    exact ⟨ai, li, ci, hc⟩

theorem RowS.below {w w' : World} {a : Option Addr} {len : Nat} {zss : List (List Int)} (h : RowS w a len zss) (k : Below w.heap.size w w') : RowS w' a len zss := by
  refine ⟨h.len_eq, h.small, fun i hi => ?_⟩
  obtain ⟨b, off, ai, li, ci, ha, hc, hr, hl⟩ := h.cells i hi
  exact ⟨b, off, ai, li, ci, ha, (k.cell (block_lt_of_cell hc)).trans hc, hr.below k, hl⟩
theorem RowS.alloc {w : World} {a : Option Addr} {len : Nat} {zss : List (List Int)} (h : RowS w a len zss) (o : Obj) : RowS (w.alloc o) a len zss := h.below (bel1 o)
theorem RowS.drewN {w : World} {a : Option Addr} {len : Nat} {zss : List (List Int)} (h : RowS w a len zss) (n : Nat) : RowS (w.drewN n) a len zss := h.below (bel0d n)

/-! The size. -/
set_option maxHeartbeats 1000000 in
theorem szIntSS_any (ad : Option Addr) (len cap : Nat) (zss : List (List Int)) (left : Int) (w : World) (hr : RowS w ad len zss) (h0 : 0 ≤ left) (h1 : left ≤ 1048576) :
    Calls Try.prog 14 #[.slice ad len cap, .int .i64 left] w fun e w' => (∃ r : Int, e = .returned (.int .i64 r) ∧ (r < 0 ∨ (0 ≤ r ∧ len ≤ 1048576 ∧ ∀ i, i < len → (nthS zss i).length ≤ 1048576))) ∧ w' = w := by
  have hz := hr.len_eq
  have hs := hr.small
  have HO := hide hr.open_
  clear hr
  subst hz
  by_cases hlt : left < zss.length
  · go_enter Try.func14, Try.ntmps14
    go_wp2
    go_ret
    exact ⟨⟨_, rfl, .inl (by omega)⟩, rfl⟩
  · go_enter Try.func14, Try.ntmps14
    go_wp2
    go_loopw [1, 5] (fun l i wr => ∃ (k : Nat) (q : Int), k ≤ zss.length ∧ i = .int .i64 k ∧ l = .int .i64 q ∧ 0 ≤ q ∧ q ≤ 1048576 ∧ Hid (∀ j, j < k → (nthS zss j).length ≤ 1048576) ∧ wr = w) (fun _ i _ => zss.length - (intOf i).toNat)
    case atStart => exact ⟨0, left - zss.length, by omega, rfl, rfl, by omega, by omega, (fun j hj => by omega), rfl⟩
    case round =>
      obtain ⟨k, q, hk, rfl, rfl, hq0, hq1, hall, hwr⟩ := hrel
      subst wr
      by_cases hk2 : k < zss.length
      · rcases (unhide HO) with ⟨h0, _⟩ | ⟨bb, off, rfl, _, hc⟩
        · omega
        obtain ⟨ai, li, ci, hcell, hrow, _⟩ := hc k hk2
        have hll := hrow.len_eq
        have hsm := hrow.small
        have HLL := hide hll
        clear hc hrow hll
        by_cases hfit : (li : Int) ≤ q
        · go_wp2_with (go_at_call 48; refine (szIntS_yes _ _ _ _ _ (by omega) (by omega)).mono ?_; rintro e w' ⟨rfl, hw⟩; subst w')
          go_roundw
          case rel => exact ⟨k + 1, q - li, by omega, by go_num, rfl, by omega, by omega, (fun j hj => by rcases Nat.lt_succ_iff_lt_or_eq.1 hj with h | h; exact hall.out j h; subst h; rw [unhide HLL]; omega), by first | rfl | trivial⟩
          case measure => simp [intOf]; omega
        · go_wp2_with (go_at_call 48; refine (szIntS_no _ _ _ _ _ (by omega) (by omega) (by omega) (by omega)).mono ?_; rintro e w' ⟨rfl, hw⟩; subst w')
          go_ret
          exact ⟨⟨_, rfl, .inl (by omega)⟩, rfl⟩
      · go_wp2
        go_ret
        exact ⟨⟨_, rfl, .inr ⟨by omega, by omega, fun i hi => hall.out i (by omega)⟩⟩, rfl⟩

/-! The comparison, of what reads alike. -/
set_option maxHeartbeats 1000000 in
theorem eqIntSS_same (ad bd : Option Addr) (len cap len2 cap2 : Nat) (zss : List (List Int)) (w : World) (hr : RowS w ad len zss) (hr2 : RowS w bd len2 zss) :
    Calls Try.prog 18 #[.slice ad len cap, .slice bd len2 cap2] w fun e w' => e = .returned (.bool true) ∧ Below w.heap.size w w' := by
  have hz := hr.len_eq
  have hs := hr.small
  have HO := hide hr.open_
  have hz2 := hr2.len_eq
  have HO2 := hide hr2.open_
  clear hr hr2
  subst hz
  subst hz2
  have hb : ((zss.length : Int) != (zss.length : Int)) = false := by simp
  go_enter Try.func18, Try.ntmps18
  go_wp2
  go_loopw [5] (fun i wr => ∃ k : Nat, k ≤ zss.length ∧ i = .int .i64 k ∧ Below w.heap.size w wr) (fun i _ => zss.length - (intOf i).toNat)
  case atStart => exact ⟨0, Nat.zero_le _, rfl, Below.refl _ _⟩
  case round =>
    obtain ⟨k, hk, rfl, hbel⟩ := hrel
    have HB := hide hbel
    clear hbel
    by_cases hlt : k < zss.length
    · rcases (unhide HO) with ⟨h0, _⟩ | ⟨bb, off, rfl, _, hc⟩
      · simp [h0] at hlt
      rcases (unhide HO2) with ⟨h0, _⟩ | ⟨bb2, off2, rfl, _, hc2⟩
      · simp [h0] at hlt
      obtain ⟨ai, li, ci, hcell, hrow, _⟩ := hc k hlt
      obtain ⟨ai2, li2, ci2, hcell2, hrow2, _⟩ := hc2 k hlt
      have hcell := ((unhide HB).cell (block_lt_of_cell hcell)).trans hcell
      have hcell2 := ((unhide HB).cell (block_lt_of_cell hcell2)).trans hcell2
      have HR := hide (hrow.below (unhide HB))
      have HR2 := hide (hrow2.below (unhide HB))
      have hi1 : (0 : Int) ≤ (k : Int) := by omega
      have hi2 : (k : Int) < (zss.length : Int) := by omega
      have hrefl := eqB_refl (nthS zss k)
      clear hc hc2 hrow hrow2
      go_wp2
      go_quiet ((go_at_call 55; exact Calls.quiet_of (eqIntS_any _ _ _ _ _ _ (nthS zss k) (nthS zss k) _ ((unhide HR).drewN _) ((unhide HR2).drewN _))))
      go_wp2
      go_roundw
      case rel => exact ⟨k + 1, by omega, by go_num, below_drewN (unhide HB) _⟩
      case measure => simp [intOf]; omega
    · go_wp2
      go_ret
      exact ⟨rfl, unhide HB⟩

end Go.Proofs.Ythdnokilfmbgobc
