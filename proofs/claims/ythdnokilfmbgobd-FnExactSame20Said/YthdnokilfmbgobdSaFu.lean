/-
  A row of a record, an empty one where there is none, and the first column at which two rows are unlike: the program's. At every argument; nothing that was there is written.
-/
import Derived.Test.YthdnokilfmbgobdSaPure
import Derived.Test.YthdnokilfmbgobdRcOk
namespace Go.Proofs.Ythdnokilfmbgobd
open Go.RowKit

set_option maxHeartbeats 1000000 in
theorem rowAt_any (ad : Option Addr) (len cap k : Nat) (zss : List (List Int)) (w : World) (hr : RowS w ad len zss) :
    Calls Try.prog 35 #[.slice ad len cap, .int .i64 (k : Int)] w fun e w' => ∃ a n c, e = .returned (.slice a n c) ∧ Row w' a n (nthS zss k) ∧ Below w.heap.size w w' := by
  have hz := hr.len_eq
  have hs := hr.small
  have ho := hr.open_
  clear hr
  subst hz
  by_cases hlt : k < zss.length
  · rcases ho with ⟨h0, _⟩ | ⟨bb, off, rfl, _, hc⟩
    · omega
    obtain ⟨ai, li, ci, ck, rk, _⟩ := hc k hlt
    have HK := hide rk
    have i0 : (0 : Int) ≤ (k : Int) := by omega
    have i1 : (k : Int) < (zss.length : Int) := by omega
    clear hc rk
    go_enter Try.func35, Try.ntmps35
    go_wp2_with fail
    go_ret
    exact ⟨_, _, _, rfl, unhide HK, Below.refl _ _⟩
  · have HE : Hid (nthS zss k = []) := hide (nthS_out (by omega))
    have i1 : ¬ (k : Int) < (zss.length : Int) := by omega
    go_enter Try.func35, Try.ntmps35
    go_wp2_with fail
    refine bodyPost_ret (v := .slice (some ⟨w.heap.size, 0, none⟩) 0 0) (by simp [results, Try.results35, go_sem]) rfl ?_
    refine ⟨_, _, ⟨_, rfl⟩, ?_, bel1 _⟩
    rw [unhide HE]
    exact ⟨rfl, by omega, fun i hi => by omega, fun i => by simp [nth]⟩

set_option maxRecDepth 20000 in
set_option maxHeartbeats 4000000 in
theorem firstUnlike_any (a1 a2 : Option Addr) (l1 c1 l2 c2 : Nat) (xs ys : List Int) (w : World) (h1 : Row w a1 l1 xs) (h2 : Row w a2 l2 ys) :
    Calls Try.prog 34 #[.slice a1 l1 c1, .slice a2 l2 c2] w fun e w' => e = .returned (.int .i64 (unR xs ys)) ∧ Below w.heap.size w w' := by
  have hz1 := h1.len_eq
  have hz2 := h2.len_eq
  have hs1 := h1.small
  have hs2 := h2.small
  have HO1 := hide h1.open_
  have HO2 := hide h2.open_
  clear h1 h2
  subst hz1
  subst hz2
  by_cases hmx : (xs.length : Int) < (ys.length : Int)
  · obtain ⟨N, hN⟩ : ∃ N, N = max xs.length ys.length := ⟨_, rfl⟩
    have hNM : N = ys.length := by omega
    have HNN := hide hN
    have HNM := hide hNM
    clear hN hNM
    go_enter Try.func34, Try.ntmps34
    go_wp2_with fail
    go_loopw [11] (fun i wr => ∃ k : Nat, k ≤ ys.length ∧ i = .int .i64 k ∧ Hid (∀ j, j < k → unI xs ys j = false) ∧ Below w.heap.size w wr) (fun i _ => ys.length - (intOf i).toNat)
    case atStart => exact ⟨0, Nat.zero_le _, rfl, (fun j hj => by omega), Below.refl _ _⟩
    case round =>
      obtain ⟨k, hk, rfl, hall, hbel⟩ := hrel
      have BW := hide hbel
      clear hbel
      by_cases hlt : k < ys.length
      · obtain ⟨ι, fW, _, hcb, hcl⟩ := belClass wr
        have HB := hide hcb
        have HA := hide hcl
        obtain ⟨y0, h0⟩ := hcl wr (Below.refl _ _)
        rw [h0]
        clear hcb hcl h0
        have i0 : (0 : Int) ≤ (k : Int) := by omega
        have i1 : (k : Int) < (ys.length : Int) := by omega
        have HMK : Hid (k < max xs.length ys.length) := hide (by omega)
        by_cases q1 : xs.length ≤ k
        · skip
          have da : decide ((xs.length : Int) ≤ (k : Int)) = true := by simp; omega
          have db : decide (xs.length ≤ k) = true := by simp; omega
          have n1 : (xs.length : Int) ≤ (k : Int) := by omega
          have HY : Hid (unI xs ys k = true) := hide (unI_a q1)
          go_wp2_with fail
          repeat (refine wp_region_bel (fun w' h => (unhide HA) w' ((unhide HB _).trans (h.mono (unhide HB _).size))) (by kernel_rfl) (by kernel_rfl) ?_; (repeat (go_big_quiet_step (fail))); refine wpQuiet_nil ?_; rintro _ ⟨y, rfl⟩; (first | go_wp2_with fail | go_wp2))
          go_ret
          exact ⟨ret_int (by rw [unR, unR_at (unhide HMK) (unhide HY) hall.out]), (unhide BW).trans ((unhide HB _).mono (unhide BW).size)⟩
        have n1 : ¬ (xs.length : Int) ≤ (k : Int) := by omega
        have da : decide ((xs.length : Int) ≤ (k : Int)) = false := by simp; omega
        have db : decide (xs.length ≤ k) = false := by simp; omega
        by_cases q2 : ys.length ≤ k
        · skip
          have fa : decide ((ys.length : Int) ≤ (k : Int)) = true := by simp; omega
          have fb : decide (ys.length ≤ k) = true := by simp; omega
          have n2 : (ys.length : Int) ≤ (k : Int) := by omega
          have HY : Hid (unI xs ys k = true) := hide (unI_b q2)
          go_wp2_with fail
          repeat (refine wp_region_bel (fun w' h => (unhide HA) w' ((unhide HB _).trans (h.mono (unhide HB _).size))) (by kernel_rfl) (by kernel_rfl) ?_; (repeat (go_big_quiet_step (fail))); refine wpQuiet_nil ?_; rintro _ ⟨y, rfl⟩; (first | go_wp2_with fail | go_wp2))
          go_ret
          exact ⟨ret_int (by rw [unR, unR_at (unhide HMK) (unhide HY) hall.out]), (unhide BW).trans ((unhide HB _).mono (unhide BW).size)⟩
        have n2 : ¬ (ys.length : Int) ≤ (k : Int) := by omega
        have fa : decide ((ys.length : Int) ≤ (k : Int)) = false := by simp; omega
        have fb : decide (ys.length ≤ k) = false := by simp; omega
        rcases (unhide HO1) with ⟨h0, _⟩ | ⟨b1, o1, rfl, _, hc1⟩
        · omega
        rcases (unhide HO2) with ⟨h0, _⟩ | ⟨b2, o2, rfl, _, hc2⟩
        · omega
        have x1 : ∀ x, (fW x).cell? ⟨b1, o1 + k, none⟩ = some (.int .i64 (nth xs k)) := fun x => (((unhide BW).trans ((unhide HB x).mono (unhide BW).size)).cell (block_lt_of_cell (hc1 k (by omega)))).trans (hc1 k (by omega))
        have x2 : ∀ x, (fW x).cell? ⟨b2, o2 + k, none⟩ = some (.int .i64 (nth ys k)) := fun x => (((unhide BW).trans ((unhide HB x).mono (unhide BW).size)).cell (block_lt_of_cell (hc2 k (by omega)))).trans (hc2 k (by omega))
        have j1 : (k : Int) < (xs.length : Int) := by omega
        have j2 : (k : Int) < (ys.length : Int) := by omega
        clear hc1 hc2
        by_cases q3 : nth xs k = nth ys k
        · skip
          have HQ := hide q3
          have e1 : (nth xs k != nth ys k) = false := by simp [q3]
          clear q3
          have HY : Hid (unI xs ys k = false) := hide (unI_f (by omega) (by omega) (unhide HQ))
          go_wp2_with fail
          repeat (refine wp_region_bel (fun w' h => (unhide HA) w' ((unhide HB _).trans (h.mono (unhide HB _).size))) (by kernel_rfl) (by kernel_rfl) ?_; (repeat (go_big_quiet_step (fail))); refine wpQuiet_nil ?_; rintro _ ⟨y, rfl⟩; (first | go_wp2_with fail | go_wp2))
          go_roundw
          case rel => exact ⟨k + 1, by omega, by go_num, (fun j hj => by rcases Nat.lt_succ_iff_lt_or_eq.1 hj with h | h; exact hall.out j h; subst h; exact unhide HY), (unhide BW).trans ((unhide HB _).mono (unhide BW).size)⟩
          case measure => simp [intOf]; omega
        · skip
          have HQ := hide q3
          have e1 : (nth xs k != nth ys k) = true := by simp [q3]
          clear q3
          have HY : Hid (unI xs ys k = true) := hide (unI_n (unhide HQ))
          go_wp2_with fail
          repeat (refine wp_region_bel (fun w' h => (unhide HA) w' ((unhide HB _).trans (h.mono (unhide HB _).size))) (by kernel_rfl) (by kernel_rfl) ?_; (repeat (go_big_quiet_step (fail))); refine wpQuiet_nil ?_; rintro _ ⟨y, rfl⟩; (first | go_wp2_with fail | go_wp2))
          go_ret
          exact ⟨ret_int (by rw [unR, unR_at (unhide HMK) (unhide HY) hall.out]), (unhide BW).trans ((unhide HB _).mono (unhide BW).size)⟩
      · have i1 : ¬ (k : Int) < (ys.length : Int) := by omega
        have HZ : Hid (unR xs ys = -1) := hide (by rw [unR, unR_no (fun j hj => hall.out j (by omega))])
        go_wp2_with fail
        go_ret
        exact ⟨ret_int (unhide HZ).symm, unhide BW⟩
  · obtain ⟨N, hN⟩ : ∃ N, N = max xs.length ys.length := ⟨_, rfl⟩
    have hNM : N = xs.length := by omega
    have HNN := hide hN
    have HNM := hide hNM
    clear hN hNM
    go_enter Try.func34, Try.ntmps34
    go_wp2_with fail
    go_loopw [11] (fun i wr => ∃ k : Nat, k ≤ xs.length ∧ i = .int .i64 k ∧ Hid (∀ j, j < k → unI xs ys j = false) ∧ Below w.heap.size w wr) (fun i _ => xs.length - (intOf i).toNat)
    case atStart => exact ⟨0, Nat.zero_le _, rfl, (fun j hj => by omega), Below.refl _ _⟩
    case round =>
      obtain ⟨k, hk, rfl, hall, hbel⟩ := hrel
      have BW := hide hbel
      clear hbel
      by_cases hlt : k < xs.length
      · obtain ⟨ι, fW, _, hcb, hcl⟩ := belClass wr
        have HB := hide hcb
        have HA := hide hcl
        obtain ⟨y0, h0⟩ := hcl wr (Below.refl _ _)
        rw [h0]
        clear hcb hcl h0
        have i0 : (0 : Int) ≤ (k : Int) := by omega
        have i1 : (k : Int) < (xs.length : Int) := by omega
        have HMK : Hid (k < max xs.length ys.length) := hide (by omega)
        by_cases q1 : xs.length ≤ k
        · skip
          have da : decide ((xs.length : Int) ≤ (k : Int)) = true := by simp; omega
          have db : decide (xs.length ≤ k) = true := by simp; omega
          have n1 : (xs.length : Int) ≤ (k : Int) := by omega
          have HY : Hid (unI xs ys k = true) := hide (unI_a q1)
          go_wp2_with fail
          repeat (refine wp_region_bel (fun w' h => (unhide HA) w' ((unhide HB _).trans (h.mono (unhide HB _).size))) (by kernel_rfl) (by kernel_rfl) ?_; (repeat (go_big_quiet_step (fail))); refine wpQuiet_nil ?_; rintro _ ⟨y, rfl⟩; (first | go_wp2_with fail | go_wp2))
          go_ret
          exact ⟨ret_int (by rw [unR, unR_at (unhide HMK) (unhide HY) hall.out]), (unhide BW).trans ((unhide HB _).mono (unhide BW).size)⟩
        have n1 : ¬ (xs.length : Int) ≤ (k : Int) := by omega
        have da : decide ((xs.length : Int) ≤ (k : Int)) = false := by simp; omega
        have db : decide (xs.length ≤ k) = false := by simp; omega
        by_cases q2 : ys.length ≤ k
        · skip
          have fa : decide ((ys.length : Int) ≤ (k : Int)) = true := by simp; omega
          have fb : decide (ys.length ≤ k) = true := by simp; omega
          have n2 : (ys.length : Int) ≤ (k : Int) := by omega
          have HY : Hid (unI xs ys k = true) := hide (unI_b q2)
          go_wp2_with fail
          repeat (refine wp_region_bel (fun w' h => (unhide HA) w' ((unhide HB _).trans (h.mono (unhide HB _).size))) (by kernel_rfl) (by kernel_rfl) ?_; (repeat (go_big_quiet_step (fail))); refine wpQuiet_nil ?_; rintro _ ⟨y, rfl⟩; (first | go_wp2_with fail | go_wp2))
          go_ret
          exact ⟨ret_int (by rw [unR, unR_at (unhide HMK) (unhide HY) hall.out]), (unhide BW).trans ((unhide HB _).mono (unhide BW).size)⟩
        have n2 : ¬ (ys.length : Int) ≤ (k : Int) := by omega
        have fa : decide ((ys.length : Int) ≤ (k : Int)) = false := by simp; omega
        have fb : decide (ys.length ≤ k) = false := by simp; omega
        rcases (unhide HO1) with ⟨h0, _⟩ | ⟨b1, o1, rfl, _, hc1⟩
        · omega
        rcases (unhide HO2) with ⟨h0, _⟩ | ⟨b2, o2, rfl, _, hc2⟩
        · omega
        have x1 : ∀ x, (fW x).cell? ⟨b1, o1 + k, none⟩ = some (.int .i64 (nth xs k)) := fun x => (((unhide BW).trans ((unhide HB x).mono (unhide BW).size)).cell (block_lt_of_cell (hc1 k (by omega)))).trans (hc1 k (by omega))
        have x2 : ∀ x, (fW x).cell? ⟨b2, o2 + k, none⟩ = some (.int .i64 (nth ys k)) := fun x => (((unhide BW).trans ((unhide HB x).mono (unhide BW).size)).cell (block_lt_of_cell (hc2 k (by omega)))).trans (hc2 k (by omega))
        have j1 : (k : Int) < (xs.length : Int) := by omega
        have j2 : (k : Int) < (ys.length : Int) := by omega
        clear hc1 hc2
        by_cases q3 : nth xs k = nth ys k
        · skip
          have HQ := hide q3
          have e1 : (nth xs k != nth ys k) = false := by simp [q3]
          clear q3
          have HY : Hid (unI xs ys k = false) := hide (unI_f (by omega) (by omega) (unhide HQ))
          go_wp2_with fail
          repeat (refine wp_region_bel (fun w' h => (unhide HA) w' ((unhide HB _).trans (h.mono (unhide HB _).size))) (by kernel_rfl) (by kernel_rfl) ?_; (repeat (go_big_quiet_step (fail))); refine wpQuiet_nil ?_; rintro _ ⟨y, rfl⟩; (first | go_wp2_with fail | go_wp2))
          go_roundw
          case rel => exact ⟨k + 1, by omega, by go_num, (fun j hj => by rcases Nat.lt_succ_iff_lt_or_eq.1 hj with h | h; exact hall.out j h; subst h; exact unhide HY), (unhide BW).trans ((unhide HB _).mono (unhide BW).size)⟩
          case measure => simp [intOf]; omega
        · skip
          have HQ := hide q3
          have e1 : (nth xs k != nth ys k) = true := by simp [q3]
          clear q3
          have HY : Hid (unI xs ys k = true) := hide (unI_n (unhide HQ))
          go_wp2_with fail
          repeat (refine wp_region_bel (fun w' h => (unhide HA) w' ((unhide HB _).trans (h.mono (unhide HB _).size))) (by kernel_rfl) (by kernel_rfl) ?_; (repeat (go_big_quiet_step (fail))); refine wpQuiet_nil ?_; rintro _ ⟨y, rfl⟩; (first | go_wp2_with fail | go_wp2))
          go_ret
          exact ⟨ret_int (by rw [unR, unR_at (unhide HMK) (unhide HY) hall.out]), (unhide BW).trans ((unhide HB _).mono (unhide BW).size)⟩
      · have i1 : ¬ (k : Int) < (xs.length : Int) := by omega
        have HZ : Hid (unR xs ys = -1) := hide (by rw [unR, unR_no (fun j hj => hall.out j (by omega))])
        go_wp2_with fail
        go_ret
        exact ⟨ret_int (unhide HZ).symm, unhide BW⟩

end Go.Proofs.Ythdnokilfmbgobd
