/-
  Whether a drift is so, in the program; what is blended of two numbers. At every argument; nothing that was there is written.
-/
import Derived.Test.YtidgkkldhnckeaeNavImpl
namespace Go.Proofs.Ytidgkkldhnckeae
open Go.RowKit

set_option maxHeartbeats 400000 in
theorem allWithin_at (bb off cap : Nat) (zs : List Int) (a b : Int) (w : World) (hs : zs.length ≤ 9223372036854775807) (hc : ∀ i, i < zs.length → w.cell? ⟨bb, off + i, none⟩ = some (.int .i64 (nth zs i))) :
    Calls Try.prog 40 #[.slice (some ⟨bb, off, none⟩) zs.length cap, .int .i64 a, .int .i64 b] w fun e w' => e = .returned (.bool (allB zs a b)) ∧ ∃ n, w' = w.drewN n := by
  have HC := hide hc
  clear hc
  go_enter Try.func40, Try.ntmps40
  go_wp2
  go_loopw [11] (fun i wr => ∃ k n : Nat, k ≤ zs.length ∧ i = .int .i64 k ∧ Hid (∀ j, j < k → inB (nth zs j) a b = true) ∧ wr = w.drewN n) (fun i _ => zs.length - (intOf i).toNat)
  case atStart => exact ⟨0, 0, Nat.zero_le _, rfl, (fun j hj => by omega), rfl⟩
  case round =>
    obtain ⟨k, n, hk, rfl, hall, rfl⟩ := hrel
    by_cases hlt : k < zs.length
    · have hcell := unhide HC k hlt
      cases hin : inB (nth zs k) a b
      · have Hin : Hid (inB (nth zs k) a b = false) := hin
        go_wp2_with (go_at_call 27; refine (within_any _ _ _ _).mono ?_; rintro e w' ⟨rfl, rfl⟩)
        go_ret
        exact ⟨ret_bool (allB_false hlt Hin.out).symm, n, rfl⟩
      · have Hin : Hid (inB (nth zs k) a b = true) := hin
        go_wp2_with (go_at_call 27; refine (within_any _ _ _ _).mono ?_; rintro e w' ⟨rfl, rfl⟩)
        go_roundw
        case rel => exact ⟨k + 1, n, by omega, by go_num, (fun j hj => by rcases Nat.lt_succ_iff_lt_or_eq.1 hj with h | h; exact hall.out j h; subst h; exact Hin.out), rfl⟩
        case measure => simp [intOf]; omega
    · go_wp2
      go_ret
      exact ⟨ret_bool (allB_true fun j hj => hall.out j (by omega)).symm, n, rfl⟩
theorem allWithin_four {c : Bool} (bb cap : Nat) (x y u v : Int) (w : World) (hc : dtB x y u v = c) (h0 : w.cell? ⟨bb, 0, none⟩ = some (.int .i64 x)) (h1 : w.cell? ⟨bb, 1, none⟩ = some (.int .i64 y)) (h2 : w.cell? ⟨bb, 2, none⟩ = some (.int .i64 u)) (h3 : w.cell? ⟨bb, 3, none⟩ = some (.int .i64 v)) :
    Calls Try.prog 40 #[.slice (some ⟨bb, 0, none⟩) 4 cap, .int .i64 (-1000000), .int .i64 1000000] w fun e w' => e = .returned (.bool c) ∧ ∃ n, w' = w.drewN n := by
  subst hc
  have h := allWithin_at bb 0 cap [x, y, u, v] (-1000000) 1000000 w (by simp) (fun i hi => by
    match i, hi with
    | 0, _ => exact h0
    | 1, _ => exact h1
    | 2, _ => exact h2
    | 3, _ => exact h3
    | n + 4, hi => exact absurd hi (by simp))
  rw [dtB_all] at h
  exact h
set_option maxHeartbeats 2000000 in
theorem driftOk_al {c : Bool} (x y u v : Int) (w : World) (hc : dtB x y u v = c) :
    Calls Try.prog 24 #[.agg #[.int .i64 x, .int .i64 y, .int .i64 u, .int .i64 v]] w fun e w' => e = .returned (.bool c) ∧ ∃ n, w' = ((w.alloc (Obj.cells #[.int .i64 x, .int .i64 y, .int .i64 u, .int .i64 v] 38)).alloc (Obj.cells #[.int .i64 x, .int .i64 y, .int .i64 u, .int .i64 v] 3)).drewN n := by
  go_enter Try.func24, Try.ntmps24
  go_wp2_with (go_at_call 40; refine (allWithin_four _ _ x y u v _ hc (by go_simp) (by go_simp) (by go_simp) (by go_simp)).mono ?_; rintro e w' ⟨rfl, n, hw⟩; subst w')
  go_ret
  exact ⟨rfl, n, rfl⟩
set_option maxHeartbeats 2000000 in
theorem blended_is (a b part : Int) (w : World) (h1 : -1002000 ≤ b - a) (h2 : b - a ≤ 1002000) (h3 : 0 ≤ part) (h4 : part ≤ 100) (h5 : -1000000 ≤ a) (h6 : a ≤ 1000000) :
    Calls Try.prog 28 #[.int .i64 a, .int .i64 b, .int .i64 part] w fun e w' => e = .returned (.int .i64 (blR a b part)) ∧ w' = w := by
  have s := mulBd (s := b - a) (d := part) (A := 1002000) (B := 100) (by omega) (by omega) (by omega) (by omega) (by omega) (by omega)
  have t := tdivBd100 s.1 s.2
  go_enter Try.func28, Try.ntmps28
  go_wp2
  go_ret
  exact ⟨rfl, rfl⟩

end Go.Proofs.Ytidgkkldhnckeae
