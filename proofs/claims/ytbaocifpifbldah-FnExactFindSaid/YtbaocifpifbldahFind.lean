/-
  What Find answers in the model: the number and flag of the plain function, at every curve and number; nothing that was there is written.
-/
import Derived.Test.YtbaocifpifbldahFindPure
namespace Go.Proofs.Ytbaocifpifbldah
open Go.RowKit

theorem ret_pair2 {k : IntKind} {a b : Int} {c d : Bool} (h : a = b) (h' : c = d) : Ending.returned (.tuple #[.int k a, .bool c]) = .returned (.tuple #[.int k b, .bool d]) := by rw [h, h']

set_option maxHeartbeats 400000 in
theorem l1Down_any (a b : Int) (w : World) (h0 : 0 ≤ a) (h1 : 1 ≤ b) (ha : a ≤ 1000000000000) (hb : b ≤ 1000000000000) :
    Calls Try.prog 35 #[.int .i64 a, .int .i64 b] w fun e w' => e = .returned (.int .i64 (a / b)) ∧ w' = w := by
  have hm : 0 ≤ a % b := Int.emod_nonneg _ (by omega)
  have hbz : (b == 0) = false := by simp; omega
  go_enter Try.func35, Try.ntmps35
  go_wp2
  go_ret
  exact ⟨rfl, rfl⟩

set_option maxHeartbeats 1000000 in
theorem specFind_any (a1 a2 : Option Addr) (l1 c1 l2 c2 : Nat) (xs ys : List Int) (y : Int) (w : World) (h1 : Row w a1 l1 xs) (h2 : Row w a2 l2 ys) :
    Calls Try.prog 17 #[.agg #[.slice a1 l1 c1, .slice a2 l2 c2], .int .i64 y] w fun e w' => e = .returned (.tuple #[.int .i64 (findA xs ys y), .bool (findB xs ys y)]) ∧ Below w.heap.size w w' := by
  have H1 := hide (h1.alloc (.cells #[.slice a1 l1 c1, .slice a2 l2 c2] 27))
  have H2 := hide (h2.alloc (.cells #[.slice a1 l1 c1, .slice a2 l2 c2] 27))
  have hl1 := h1.len_eq
  have hl2 := h2.len_eq
  subst hl1
  subst hl2
  clear h1 h2
  cases hc : curveB xs ys
  · have HN := hide (find_no (y := y) hc)
    go_enter Try.func17, Try.ntmps17
    go_wp2_with fail
    refine (specCurveOk_any _ _ _ _ _ _ xs ys _ (unhide H1) (unhide H2)).mono ?_
    rintro e w1 ⟨rfl, b1⟩
    go_wp2_with fail
    go_ret2
    exact ⟨ret_pair2 (unhide HN).1.symm (unhide HN).2.symm, (bel1 _).trans (b1.mono (by simp))⟩
  · have F := curveB_facts hc
    have hn := F.many
    have hlen := F.len
    have HF := hide F
    have HY := hide hc
    have hn2 : 2 ≤ ys.length := by omega
    have hn3 : ys.length ≤ 20 := by omega
    have hle1 : xs.length ≤ ys.length := by omega
    have hle2 : ys.length ≤ xs.length := by omega
    have HL := hide hlen
    clear F hlen
    go_enter Try.func17, Try.ntmps17
    go_wp2_with fail
    refine (specCurveOk_any _ _ _ _ _ _ xs ys _ ?_ ?_).mono ?_
    · exact unhide H1
    · exact unhide H2
    rintro e w1 ⟨rfl, b1⟩
    have hs1 : w.heap.size < w1.heap.size := by have := b1.size; simp at this; omega
    have x0 : w1.cell? ⟨w.heap.size, 0, none⟩ = some (.slice a1 xs.length c1) := (b1.cell (p := ⟨w.heap.size, 0, none⟩) (by simp)).trans (by simp [go_sem])
    have x1 : w1.cell? ⟨w.heap.size, 1, none⟩ = some (.slice a2 ys.length c2) := (b1.cell (p := ⟨w.heap.size, 1, none⟩) (by simp)).trans (by simp [go_sem])
    have B1 := hide ((bel1 _).trans (b1.mono (by simp)))
    rcases ((unhide H1).below b1).open_ with ⟨h0, _⟩ | ⟨bb1, off1, rfl, _, hcx⟩
    · omega
    rcases ((unhide H2).below b1).open_ with ⟨h0, _⟩ | ⟨bb, off, rfl, _, hcy⟩
    · omega
    have HCX := hide hcx
    have HCY := hide hcy
    clear b1 hcx hcy H1 H2
    go_wp2
    clear hc
    go_loopw [6] (fun i wr => ∃ k : Nat, k ≤ ys.length ∧ i = .int .i64 k ∧ Hid (∀ j, j < k → nth ys j < y) ∧ wr = w1) (fun i _ => ys.length - (intOf i).toNat)
    case atStart => exact ⟨0, by omega, rfl, (fun j hj => by omega), rfl⟩
    case round =>
      obtain ⟨k, hk, rfl, hall, hwr⟩ := hrel
      subst wr
      by_cases hlt : k < ys.length
      · have hi0 : (0 : Int) ≤ (k : Int) := by omega
        have hi1 : (k : Int) < (ys.length : Int) := by omega
        have gy := (unhide HCY) k hlt
        by_cases hy : nth ys k < y
        · go_wp2
          go_roundw
          case rel => exact ⟨k + 1, by omega, by go_num, (fun j hj => by rcases Nat.lt_succ_iff_lt_or_eq.1 hj with h | h; exact hall.out j h; subst h; exact hy), by first | rfl | trivial⟩
          case measure => simp [intOf]; omega
        · rcases Nat.eq_zero_or_pos k with hz | hz
          · subst hz
            have gx := (unhide HCX) 0 (by omega)
            have HZ := hide (find_zero (xs := xs) (y := y) (unhide HY) hlt (by omega))
            simp only [Nat.add_zero] at gx gy
            have hne : (((0 : Nat) : Int) == 0) = true := by decide
            go_wp2
            go_ret2
            exact ⟨ret_pair2 (unhide HZ).1.symm (unhide HZ).2.symm, unhide B1⟩
          · obtain ⟨j, hj⟩ : ∃ j, k = j + 1 := ⟨k - 1, by omega⟩
            subst hj
            have gy0 := (unhide HCY) j (by omega)
            have gx := (unhide HCX) (j + 1) (by have := unhide HL; omega)
            have gx0 := (unhide HCX) j (by have := unhide HL; omega)
            have hyj := hall.out j (by omega)
            have bx := (unhide HF).xb (j + 1) (by have := unhide HL; omega)
            have bx0 := (unhide HF).xb j (by have := unhide HL; omega)
            have by1 := (unhide HF).yb (j + 1) (by omega)
            have by0 := (unhide HF).yb j (by omega)
            have hrx := (unhide HF).rise j (by have := unhide HL; omega)
            have hbd := reach_bd bx0 bx by0 by1 hrx hyj (by omega)
            have HZ := hide (find_some (xs := xs) (unhide HY) hlt (by omega) (fun q hq => hall.out q hq))
            have hj0 : (0 : Int) ≤ (j : Int) := by omega
            have hj1 : (j : Int) < (ys.length : Int) := by omega
            have hj2 : (j : Int) + 1 < (ys.length : Int) := by omega
            have hj3 : (j : Int) < (xs.length : Int) := by omega
            have hj4 : (j : Int) + 1 < (xs.length : Int) := by omega
            have hne : (((j + 1 : Nat) : Int) == 0) = false := by simp; omega
            go_wp2
            go_quiet (fail)
            go_wp2
            go_quiet ((go_at_call 35; exact quietSame (l1Down_any _ _ _ (by omega) (by omega) (by omega) (by omega))))
            go_wp2
            go_ret2
            exact ⟨ret_pair2 (unhide HZ).1.symm (unhide HZ).2.symm, (unhide B1).trans (by first | exact bel0d' _ | exact (bel0d' _).trans (bel0d' _))⟩
      · have HZ := hide (find_none (xs := xs) (ys := ys) (y := y) (fun j hj => hall.out j (by omega)))
        go_wp2
        go_ret2
        exact ⟨ret_pair2 (unhide HZ).1.symm (unhide HZ).2.symm, unhide B1⟩

end Go.Proofs.Ytbaocifpifbldah
