/-
  What Find answers in the program: the model's number and flag at every curve whose lists have no less room than length; nothing that was there is written.
-/
import Derived.Test.YtikhfacgoglcfaaFind
import Derived.Test.YtikhfacgoglcfaaNear
namespace Go.Proofs.Ytikhfacgoglcfaa
open Go.RowKit

set_option maxHeartbeats 1000000 in
theorem firstReached_any (b1 o1 b2 o2 : Nat) (x0 x1 y0 y1 y : Int) (w : World) (h1 : -100000 ≤ x0 ∧ x0 ≤ 100000) (h2 : -100000 ≤ x1 ∧ x1 ≤ 100000) (h3 : -100000 ≤ y0 ∧ y0 ≤ 100000) (h4 : -100000 ≤ y1 ∧ y1 ≤ 100000) (hx : x0 < x1) (hy0 : y0 < y) (hy1 : y ≤ y1)
    (e0 : w.cell? ⟨b1, o1, none⟩ = some (.int .i64 x0)) (e1 : w.cell? ⟨b1, o1 + 1, none⟩ = some (.int .i64 x1)) (f0 : w.cell? ⟨b2, o2, none⟩ = some (.int .i64 y0)) (f1 : w.cell? ⟨b2, o2 + 1, none⟩ = some (.int .i64 y1)) :
    Calls Try.prog 21 #[.slice (some ⟨b1, o1, none⟩) 2 2, .slice (some ⟨b2, o2, none⟩) 2 2, .int .i64 y] w fun e w' => e = .returned (.int .i64 (reachOf x0 x1 y0 y1 y)) ∧ ∃ n, w' = w.drewN n := by
  have hbd := reach_bd h1 h2 h3 h4 hx hy0 hy1
  go_enter Try.func21, Try.ntmps21
  go_wp2
  go_quiet (fail)
  go_wp2
  go_quiet (fail)
  go_wp2
  go_quiet (fail)
  go_wp2
  go_ret
  exact ⟨rfl, by first | exact ⟨_, rfl⟩ | exact ⟨_, by rw [World.drewN_drewN, World.drewN_drewN]⟩⟩

set_option maxHeartbeats 1000000 in
theorem implFind_any (a1 a2 : Option Addr) (l1 c1 l2 c2 : Nat) (xs ys : List Int) (y : Int) (w : World) (h1 : Row w a1 l1 xs) (h2 : Row w a2 l2 ys) (hcap1 : l1 ≤ c1) (hcap2 : l2 ≤ c2) :
    Calls Try.prog 9 #[.agg #[.slice a1 l1 c1, .slice a2 l2 c2], .int .i64 y] w fun e w' => e = .returned (.tuple #[.int .i64 (findA xs ys y), .bool (findB xs ys y)]) ∧ Below w.heap.size w w' := by
  have H1 := hide (h1.alloc (.cells #[.slice a1 l1 c1, .slice a2 l2 c2] 26))
  have H2 := hide (h2.alloc (.cells #[.slice a1 l1 c1, .slice a2 l2 c2] 26))
  have hl1 := h1.len_eq
  have hl2 := h2.len_eq
  subst hl1
  subst hl2
  clear h1 h2
  cases hc : curveB xs ys
  · have HN := hide (find_no (y := y) hc)
    go_enter Try.func9, Try.ntmps9
    go_wp2_with fail
    refine (implCurveOk_any _ _ _ _ _ _ xs ys _ (unhide H1) (unhide H2)).mono ?_
    rintro e w1 ⟨rfl, b1⟩
    go_wp2_with fail
    go_ret2
    exact ⟨ret_pair2 (unhide HN).1.symm (unhide HN).2.symm, (bel1 _).trans (b1.mono (by simp))⟩
  · have F := curveB_facts hc
    have hn := F.many
    have hlen := F.len
    have HF := hide F
    have HY := hide hc
    have hn2 : 2 ≤ ys.length := by omega
    have hn3 : ys.length ≤ 20 := by omega
    have hle1 : xs.length ≤ ys.length := by omega
    have hle2 : ys.length ≤ xs.length := by omega
    have HL := hide hlen
    clear F hlen
    go_enter Try.func9, Try.ntmps9
    go_wp2_with fail
    refine (implCurveOk_any _ _ _ _ _ _ xs ys _ (unhide H1) (unhide H2)).mono ?_
    rintro e w1 ⟨rfl, b1⟩
    have hs1 : w.heap.size < w1.heap.size := by have := b1.size; simp at this; omega
    have x0 : w1.cell? ⟨w.heap.size, 0, none⟩ = some (.slice a1 xs.length c1) := (b1.cell (p := ⟨w.heap.size, 0, none⟩) (by simp)).trans (by simp [go_sem])
    have x1 : w1.cell? ⟨w.heap.size, 1, none⟩ = some (.slice a2 ys.length c2) := (b1.cell (p := ⟨w.heap.size, 1, none⟩) (by simp)).trans (by simp [go_sem])
    have B1 := hide ((bel1 _).trans (b1.mono (by simp)))
    rcases ((unhide H1).below b1).open_ with ⟨h0, _⟩ | ⟨bb1, off1, rfl, _, hcx⟩
    · omega
    rcases ((unhide H2).below b1).open_ with ⟨h0, _⟩ | ⟨bb, off, rfl, _, hcy⟩
    · omega
    have HCX := hide hcx
    have HCY := hide hcy
    have g0 := hcy 0 (by omega)
    have gx0 := hcx 0 (by omega)
    simp only [Nat.add_zero] at g0 gx0
    have hi00 : (0 : Int) < (ys.length : Int) := by omega
    have hi01 : (0 : Int) < (xs.length : Int) := by omega
    clear b1 hcx hcy H1 H2
    by_cases hy0 : y ≤ nth ys 0
    · have HZ := hide (find_zero (xs := xs) (y := y) (unhide HY) (by omega) hy0)
      go_wp2
      go_ret2
      exact ⟨ret_pair2 (unhide HZ).1.symm (unhide HZ).2.symm, unhide B1⟩
    · go_wp2
      clear hc g0 gx0
      go_loopw [24] (fun i wr => ∃ k : Nat, k + 1 ≤ ys.length ∧ i = .int .i64 k ∧ Hid (∀ j, j < k + 1 → nth ys j < y) ∧ wr = w1) (fun i _ => ys.length - (intOf i).toNat)
      case atStart => exact ⟨0, by omega, rfl, (fun j hj => by have : j = 0 := by omega
                                                               subst this; omega), rfl⟩
      case round =>
        obtain ⟨k, hk, rfl, hall, hwr⟩ := hrel
        subst wr
        by_cases hlt : k + 1 < ys.length
        · have hj0 : (0 : Int) ≤ (k : Int) := by omega
          have hj1 : (k : Int) < (ys.length : Int) := by omega
          have hj2 : (k : Int) + 1 < (ys.length : Int) := by omega
          have gy := (unhide HCY) (k + 1) hlt
          by_cases hy : y ≤ nth ys (k + 1)
          · have gy0 := (unhide HCY) k (by omega)
            have gx := (unhide HCX) (k + 1) (by have := unhide HL; omega)
            have gx0 := (unhide HCX) k (by have := unhide HL; omega)
            have bx := (unhide HF).xb (k + 1) (by have := unhide HL; omega)
            have bx0 := (unhide HF).xb k (by have := unhide HL; omega)
            have by1 := (unhide HF).yb (k + 1) (by omega)
            have by0 := (unhide HF).yb k (by omega)
            have hrx := (unhide HF).rise k (by have := unhide HL; omega)
            have hyj := hall.out k (by omega)
            have HZ := hide (find_some (xs := xs) (unhide HY) hlt hy (fun q hq => hall.out q hq))
            go_wp2
            go_quiet (first
              | (go_at_call_of 16 (Value.slice (some (⟨bb1, off1, none⟩ : Addr)) xs.length c1); exact Calls.quiet_of_same (neighbours_any _ _ _ _ _ _ (by omega) (by omega) (by omega)))
              | (go_at_call_of 16 (Value.slice (some (⟨bb, off, none⟩ : Addr)) ys.length c2); exact Calls.quiet_of_same (neighbours_any _ _ _ _ _ _ (by omega) (by omega) (by omega)))
              | (go_at_call 21; exact Calls.quiet_of (firstReached_any _ _ _ _ (nth xs k) (nth xs (k + 1)) (nth ys k) (nth ys (k + 1)) _ _ bx0 bx by0 by1 hrx hyj hy gx0 gx gy0 gy)))
            go_wp2
            go_ret2
            exact ⟨ret_pair2 (unhide HZ).1.symm (unhide HZ).2.symm, (unhide B1).trans (by first | exact bel0d' _ | exact (bel0d' _).trans (bel0d' _))⟩
          · go_wp2
            go_roundw
            case rel => exact ⟨k + 1, by omega, by go_num, (fun j hj => by rcases Nat.lt_succ_iff_lt_or_eq.1 hj with h | h; exact hall.out j h; subst h; omega), by first | rfl | trivial⟩
            case measure => simp [intOf]; omega
        · have HZ := hide (find_none (xs := xs) (ys := ys) (y := y) (fun j hj => hall.out j (by omega)))
          go_wp2
          go_ret2
          exact ⟨ret_pair2 (unhide HZ).1.symm (unhide HZ).2.symm, unhide B1⟩

end Go.Proofs.Ytikhfacgoglcfaa
