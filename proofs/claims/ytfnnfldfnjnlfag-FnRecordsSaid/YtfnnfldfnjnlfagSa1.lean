/-
  Where two records differ first, in plain numbers: what is found. No program here.
  A row of a record, an empty one where there is none, and the first column at which two rows are unlike: the program's. At every argument; nothing that was there is written.
  What the program's Same20 answers: where two records differ first. At every two lists of rows; nothing that was there is written.
  A record is the same as itself, and differs from one with a value changed just there; a drawn record's bytes fit: plain numbers. No program here.
-/
import Derived.Test.YtfnnfldfnjnlfagPk1
import Derived.Test.YtfnnfldfnjnlfagRcOk
import Derived.Test.YtfnnfldfnjnlfagRt1

namespace Go.Proofs.Ytfnnfldfnjnlfag

theorem rng_at {p : Nat → Bool} {n k : Nat} (hk : k < n) (h : p k = true) (hb : ∀ j, j < k → p j = false) : (List.range n).find? p = some k := by
  rw [List.find?_range_eq_some]
  exact ⟨h, by simpa using hk, fun j hj => by rw [hb j hj]; rfl⟩
theorem rng_none {p : Nat → Bool} {n : Nat} (hb : ∀ j, j < n → p j = false) : (List.range n).find? p = none := by
  rw [List.find?_eq_none]
  intro j hj
  rw [hb j (by simpa using hj)]; simp
/-- The first unlike column, -1 where there is none. -/
def unR (a b : List Int) : Int := match unF a b with | none => -1 | some k => (k : Int)
theorem unR_at {a b : List Int} {k : Nat} (hk : k < max a.length b.length) (h : unI a b k = true) (hb : ∀ j, j < k → unI a b j = false) : unF a b = some k := rng_at hk h hb
theorem unR_no {a b : List Int} (hb : ∀ j, j < max a.length b.length → unI a b j = false) : unF a b = none := rng_none hb
theorem df_no {A B : List (List Int)} (h : (rcB A && rcB B) = false) : dfR A B = -2 ∧ dfCo A B = -2 ∧ dfO A B = false := by
  simp [dfR, dfCo, dfO, dfBo, h]
theorem df_here {A B : List (List Int)} {i k : Nat} (h : (rcB A && rcB B) = true) (hi : i < max A.length B.length) (hk : unF (nthS A i) (nthS B i) = some k) (hb : ∀ j, j < i → unF (nthS A j) (nthS B j) = none) : dfR A B = i ∧ dfCo A B = k ∧ dfO A B = false := by
  have : dfF A B = some i := rng_at hi (by rw [hk]; rfl) (fun j hj => by rw [hb j hj]; rfl)
  simp [dfR, dfCo, dfO, dfBo, h, this, hk]
theorem df_none {A B : List (List Int)} (h : (rcB A && rcB B) = true) (hb : ∀ j, j < max A.length B.length → unF (nthS A j) (nthS B j) = none) : dfR A B = -1 ∧ dfCo A B = -1 ∧ dfO A B = true := by
  have : dfF A B = none := rng_none (fun j hj => by rw [hb j hj]; rfl)
  simp [dfR, dfCo, dfO, dfBo, h, this]
theorem nthS_out {A : List (List Int)} {i : Nat} (h : A.length ≤ i) : nthS A i = [] := by simp [nthS, h]
/-- A row that one of them lacks differs at its first column. -/
theorem un_lack {A B : List (List Int)} {i : Nat} (h : (rcB A && rcB B) = true) (hi : i < max A.length B.length) (hl : A.length ≤ i ∨ B.length ≤ i) : unF (nthS A i) (nthS B i) = some 0 := by
  rw [Bool.and_eq_true] at h
  have hA := (rcB_facts h.1).2
  have hB := (rcB_facts h.2).2
  rcases hl with hl | hl
  · have hb : i < B.length := by omega
    have := hB i hb
    refine unR_at (by omega) ?_ (fun j hj => by omega)
    rw [nthS_out hl]; simp [unI]
  · have ha : i < A.length := by omega
    have := hA i ha
    refine unR_at (by omega) ?_ (fun j hj => by omega)
    rw [nthS_out hl]; simp [unI]
theorem unI_a {a b : List Int} {k : Nat} (h : a.length ≤ k) : unI a b k = true := by simp [unI, h]
theorem unI_b {a b : List Int} {k : Nat} (h : b.length ≤ k) : unI a b k = true := by simp [unI, h]
theorem unI_n {a b : List Int} {k : Nat} (h : nth a k ≠ nth b k) : unI a b k = true := by simp [unI, h]
theorem unI_f {a b : List Int} {k : Nat} (h1 : k < a.length) (h2 : k < b.length) (h : nth a k = nth b k) : unI a b k = false := by
  simp [unI, h]; omega

end Go.Proofs.Ytfnnfldfnjnlfag

namespace Go.Proofs.Ytfnnfldfnjnlfag
open Go.RowKit

set_option maxHeartbeats 1000000 in
theorem rowAt_any (ad : Option Addr) (len cap k : Nat) (zss : List (List Int)) (w : World) (hr : RowS w ad len zss) :
    Calls Try.prog 72 #[.slice ad len cap, .int .i64 (k : Int)] w fun e w' => ∃ a n c, e = .returned (.slice a n c) ∧ Row w' a n (nthS zss k) ∧ Below w.heap.size w w' := by
  have hz := hr.len_eq
  have hs := hr.small
  have ho := hr.open_
  clear hr
  subst hz
  by_cases hlt : k < zss.length
  · rcases ho with ⟨h0, _⟩ | ⟨bb, off, rfl, _, hc⟩
    · omega
    obtain ⟨ai, li, ci, ck, rk, _⟩ := hc k hlt
    have HK := hide rk
    have i0 : (0 : Int) ≤ (k : Int) := by omega
    have i1 : (k : Int) < (zss.length : Int) := by omega
    clear hc rk
    go_enter Try.func72, Try.ntmps72
    go_wp2_with fail
    go_ret
    exact ⟨_, _, _, rfl, unhide HK, Below.refl _ _⟩
  · have HE : Hid (nthS zss k = []) := hide (nthS_out (by omega))
    have i1 : ¬ (k : Int) < (zss.length : Int) := by omega
    go_enter Try.func72, Try.ntmps72
    go_wp2_with fail
    refine bodyPost_ret (v := .slice (some ⟨w.heap.size, 0, none⟩) 0 0) (by simp [results, Try.results72, go_sem]) rfl ?_
    refine ⟨_, _, ⟨_, rfl⟩, ?_, bel1 _⟩
    rw [unhide HE]
    exact ⟨rfl, by omega, fun i hi => by omega, fun i => by simp [nth]⟩

set_option maxRecDepth 20000 in
set_option maxHeartbeats 4000000 in
theorem firstUnlike_any (a1 a2 : Option Addr) (l1 c1 l2 c2 : Nat) (xs ys : List Int) (w : World) (h1 : Row w a1 l1 xs) (h2 : Row w a2 l2 ys) :
    Calls Try.prog 71 #[.slice a1 l1 c1, .slice a2 l2 c2] w fun e w' => e = .returned (.int .i64 (unR xs ys)) ∧ Below w.heap.size w w' := by
  have hz1 := h1.len_eq
  have hz2 := h2.len_eq
  have hs1 := h1.small
  have hs2 := h2.small
  have HO1 := hide h1.open_
  have HO2 := hide h2.open_
  clear h1 h2
  subst hz1
  subst hz2
  by_cases hmx : (xs.length : Int) < (ys.length : Int)
  · obtain ⟨N, hN⟩ : ∃ N, N = max xs.length ys.length := ⟨_, rfl⟩
    have hNM : N = ys.length := by omega
    have HNN := hide hN
    have HNM := hide hNM
    clear hN hNM
    go_enter Try.func71, Try.ntmps71
    go_wp2_with fail
    go_loopw [11] (fun i wr => ∃ k : Nat, k ≤ ys.length ∧ i = .int .i64 k ∧ Hid (∀ j, j < k → unI xs ys j = false) ∧ Below w.heap.size w wr) (fun i _ => ys.length - (intOf i).toNat)
    case atStart => exact ⟨0, Nat.zero_le _, rfl, (fun j hj => by omega), Below.refl _ _⟩
    case round =>
      obtain ⟨k, hk, rfl, hall, hbel⟩ := hrel
      have BW := hide hbel
      clear hbel
      by_cases hlt : k < ys.length
      · obtain ⟨ι, fW, _, hcb, hcl⟩ := belClass wr
        have HB := hide hcb
        have HA := hide hcl
        obtain ⟨y0, h0⟩ := hcl wr (Below.refl _ _)
        rw [h0]
        clear hcb hcl h0
        have i0 : (0 : Int) ≤ (k : Int) := by omega
        have i1 : (k : Int) < (ys.length : Int) := by omega
        have HMK : Hid (k < max xs.length ys.length) := hide (by omega)
        by_cases q1 : xs.length ≤ k
        · skip
          have da : decide ((xs.length : Int) ≤ (k : Int)) = true := by simp; omega
          have db : decide (xs.length ≤ k) = true := by simp; omega
          have n1 : (xs.length : Int) ≤ (k : Int) := by omega
          have HY : Hid (unI xs ys k = true) := hide (unI_a q1)
          go_wp2_with fail
          repeat (refine wp_region_bel (fun w' h => (unhide HA) w' ((unhide HB _).trans (h.mono (unhide HB _).size))) (by kernel_rfl) (by kernel_rfl) ?_; (repeat (go_big_quiet_step (fail))); refine wpQuiet_nil ?_; rintro _ ⟨y, rfl⟩; (first | go_wp2_with fail | go_wp2))
          go_ret
          exact ⟨ret_int (by rw [unR, unR_at (unhide HMK) (unhide HY) hall.out]), (unhide BW).trans ((unhide HB _).mono (unhide BW).size)⟩
        have n1 : ¬ (xs.length : Int) ≤ (k : Int) := by omega
        have da : decide ((xs.length : Int) ≤ (k : Int)) = false := by simp; omega
        have db : decide (xs.length ≤ k) = false := by simp; omega
        by_cases q2 : ys.length ≤ k
        · skip
          have fa : decide ((ys.length : Int) ≤ (k : Int)) = true := by simp; omega
          have fb : decide (ys.length ≤ k) = true := by simp; omega
          have n2 : (ys.length : Int) ≤ (k : Int) := by omega
          have HY : Hid (unI xs ys k = true) := hide (unI_b q2)
          go_wp2_with fail
          repeat (refine wp_region_bel (fun w' h => (unhide HA) w' ((unhide HB _).trans (h.mono (unhide HB _).size))) (by kernel_rfl) (by kernel_rfl) ?_; (repeat (go_big_quiet_step (fail))); refine wpQuiet_nil ?_; rintro _ ⟨y, rfl⟩; (first | go_wp2_with fail | go_wp2))
          go_ret
          exact ⟨ret_int (by rw [unR, unR_at (unhide HMK) (unhide HY) hall.out]), (unhide BW).trans ((unhide HB _).mono (unhide BW).size)⟩
        have n2 : ¬ (ys.length : Int) ≤ (k : Int) := by omega
        have fa : decide ((ys.length : Int) ≤ (k : Int)) = false := by simp; omega
        have fb : decide (ys.length ≤ k) = false := by simp; omega
        rcases (unhide HO1) with ⟨h0, _⟩ | ⟨b1, o1, rfl, _, hc1⟩
        · omega
        rcases (unhide HO2) with ⟨h0, _⟩ | ⟨b2, o2, rfl, _, hc2⟩
        · omega
        have x1 : ∀ x, (fW x).cell? ⟨b1, o1 + k, none⟩ = some (.int .i64 (nth xs k)) := fun x => (((unhide BW).trans ((unhide HB x).mono (unhide BW).size)).cell (block_lt_of_cell (hc1 k (by omega)))).trans (hc1 k (by omega))
        have x2 : ∀ x, (fW x).cell? ⟨b2, o2 + k, none⟩ = some (.int .i64 (nth ys k)) := fun x => (((unhide BW).trans ((unhide HB x).mono (unhide BW).size)).cell (block_lt_of_cell (hc2 k (by omega)))).trans (hc2 k (by omega))
        have j1 : (k : Int) < (xs.length : Int) := by omega
        have j2 : (k : Int) < (ys.length : Int) := by omega
        clear hc1 hc2
        by_cases q3 : nth xs k = nth ys k
        · skip
          have HQ := hide q3
          have e1 : (nth xs k != nth ys k) = false := by simp [q3]
          clear q3
          have HY : Hid (unI xs ys k = false) := hide (unI_f (by omega) (by omega) (unhide HQ))
          go_wp2_with fail
          repeat (refine wp_region_bel (fun w' h => (unhide HA) w' ((unhide HB _).trans (h.mono (unhide HB _).size))) (by kernel_rfl) (by kernel_rfl) ?_; (repeat (go_big_quiet_step (fail))); refine wpQuiet_nil ?_; rintro _ ⟨y, rfl⟩; (first | go_wp2_with fail | go_wp2))
          go_roundw
          case rel => exact ⟨k + 1, by omega, by go_num, (fun j hj => by rcases Nat.lt_succ_iff_lt_or_eq.1 hj with h | h; exact hall.out j h; subst h; exact unhide HY), (unhide BW).trans ((unhide HB _).mono (unhide BW).size)⟩
          case measure => simp [intOf]; omega
        · skip
          have HQ := hide q3
          have e1 : (nth xs k != nth ys k) = true := by simp [q3]
          clear q3
          have HY : Hid (unI xs ys k = true) := hide (unI_n (unhide HQ))
          go_wp2_with fail
          repeat (refine wp_region_bel (fun w' h => (unhide HA) w' ((unhide HB _).trans (h.mono (unhide HB _).size))) (by kernel_rfl) (by kernel_rfl) ?_; (repeat (go_big_quiet_step (fail))); refine wpQuiet_nil ?_; rintro _ ⟨y, rfl⟩; (first | go_wp2_with fail | go_wp2))
          go_ret
          exact ⟨ret_int (by rw [unR, unR_at (unhide HMK) (unhide HY) hall.out]), (unhide BW).trans ((unhide HB _).mono (unhide BW).size)⟩
      · have i1 : ¬ (k : Int) < (ys.length : Int) := by omega
        have HZ : Hid (unR xs ys = -1) := hide (by rw [unR, unR_no (fun j hj => hall.out j (by omega))])
        go_wp2_with fail
        go_ret
        exact ⟨ret_int (unhide HZ).symm, unhide BW⟩
  · obtain ⟨N, hN⟩ : ∃ N, N = max xs.length ys.length := ⟨_, rfl⟩
    have hNM : N = xs.length := by omega
    have HNN := hide hN
    have HNM := hide hNM
    clear hN hNM
    go_enter Try.func71, Try.ntmps71
    go_wp2_with fail
    go_loopw [11] (fun i wr => ∃ k : Nat, k ≤ xs.length ∧ i = .int .i64 k ∧ Hid (∀ j, j < k → unI xs ys j = false) ∧ Below w.heap.size w wr) (fun i _ => xs.length - (intOf i).toNat)
    case atStart => exact ⟨0, Nat.zero_le _, rfl, (fun j hj => by omega), Below.refl _ _⟩
    case round =>
      obtain ⟨k, hk, rfl, hall, hbel⟩ := hrel
      have BW := hide hbel
      clear hbel
      by_cases hlt : k < xs.length
      · obtain ⟨ι, fW, _, hcb, hcl⟩ := belClass wr
        have HB := hide hcb
        have HA := hide hcl
        obtain ⟨y0, h0⟩ := hcl wr (Below.refl _ _)
        rw [h0]
        clear hcb hcl h0
        have i0 : (0 : Int) ≤ (k : Int) := by omega
        have i1 : (k : Int) < (xs.length : Int) := by omega
        have HMK : Hid (k < max xs.length ys.length) := hide (by omega)
        by_cases q1 : xs.length ≤ k
        · skip
          have da : decide ((xs.length : Int) ≤ (k : Int)) = true := by simp; omega
          have db : decide (xs.length ≤ k) = true := by simp; omega
          have n1 : (xs.length : Int) ≤ (k : Int) := by omega
          have HY : Hid (unI xs ys k = true) := hide (unI_a q1)
          go_wp2_with fail
          repeat (refine wp_region_bel (fun w' h => (unhide HA) w' ((unhide HB _).trans (h.mono (unhide HB _).size))) (by kernel_rfl) (by kernel_rfl) ?_; (repeat (go_big_quiet_step (fail))); refine wpQuiet_nil ?_; rintro _ ⟨y, rfl⟩; (first | go_wp2_with fail | go_wp2))
          go_ret
          exact ⟨ret_int (by rw [unR, unR_at (unhide HMK) (unhide HY) hall.out]), (unhide BW).trans ((unhide HB _).mono (unhide BW).size)⟩
        have n1 : ¬ (xs.length : Int) ≤ (k : Int) := by omega
        have da : decide ((xs.length : Int) ≤ (k : Int)) = false := by simp; omega
        have db : decide (xs.length ≤ k) = false := by simp; omega
        by_cases q2 : ys.length ≤ k
        · skip
          have fa : decide ((ys.length : Int) ≤ (k : Int)) = true := by simp; omega
          have fb : decide (ys.length ≤ k) = true := by simp; omega
          have n2 : (ys.length : Int) ≤ (k : Int) := by omega
          have HY : Hid (unI xs ys k = true) := hide (unI_b q2)
          go_wp2_with fail
          repeat (refine wp_region_bel (fun w' h => (unhide HA) w' ((unhide HB _).trans (h.mono (unhide HB _).size))) (by kernel_rfl) (by kernel_rfl) ?_; (repeat (go_big_quiet_step (fail))); refine wpQuiet_nil ?_; rintro _ ⟨y, rfl⟩; (first | go_wp2_with fail | go_wp2))
          go_ret
          exact ⟨ret_int (by rw [unR, unR_at (unhide HMK) (unhide HY) hall.out]), (unhide BW).trans ((unhide HB _).mono (unhide BW).size)⟩
        have n2 : ¬ (ys.length : Int) ≤ (k : Int) := by omega
        have fa : decide ((ys.length : Int) ≤ (k : Int)) = false := by simp; omega
        have fb : decide (ys.length ≤ k) = false := by simp; omega
        rcases (unhide HO1) with ⟨h0, _⟩ | ⟨b1, o1, rfl, _, hc1⟩
        · omega
        rcases (unhide HO2) with ⟨h0, _⟩ | ⟨b2, o2, rfl, _, hc2⟩
        · omega
        have x1 : ∀ x, (fW x).cell? ⟨b1, o1 + k, none⟩ = some (.int .i64 (nth xs k)) := fun x => (((unhide BW).trans ((unhide HB x).mono (unhide BW).size)).cell (block_lt_of_cell (hc1 k (by omega)))).trans (hc1 k (by omega))
        have x2 : ∀ x, (fW x).cell? ⟨b2, o2 + k, none⟩ = some (.int .i64 (nth ys k)) := fun x => (((unhide BW).trans ((unhide HB x).mono (unhide BW).size)).cell (block_lt_of_cell (hc2 k (by omega)))).trans (hc2 k (by omega))
        have j1 : (k : Int) < (xs.length : Int) := by omega
        have j2 : (k : Int) < (ys.length : Int) := by omega
        clear hc1 hc2
        by_cases q3 : nth xs k = nth ys k
        · skip
          have HQ := hide q3
          have e1 : (nth xs k != nth ys k) = false := by simp [q3]
          clear q3
          have HY : Hid (unI xs ys k = false) := hide (unI_f (by omega) (by omega) (unhide HQ))
          go_wp2_with fail
          repeat (refine wp_region_bel (fun w' h => (unhide HA) w' ((unhide HB _).trans (h.mono (unhide HB _).size))) (by kernel_rfl) (by kernel_rfl) ?_; (repeat (go_big_quiet_step (fail))); refine wpQuiet_nil ?_; rintro _ ⟨y, rfl⟩; (first | go_wp2_with fail | go_wp2))
          go_roundw
          case rel => exact ⟨k + 1, by omega, by go_num, (fun j hj => by rcases Nat.lt_succ_iff_lt_or_eq.1 hj with h | h; exact hall.out j h; subst h; exact unhide HY), (unhide BW).trans ((unhide HB _).mono (unhide BW).size)⟩
          case measure => simp [intOf]; omega
        · skip
          have HQ := hide q3
          have e1 : (nth xs k != nth ys k) = true := by simp [q3]
          clear q3
          have HY : Hid (unI xs ys k = true) := hide (unI_n (unhide HQ))
          go_wp2_with fail
          repeat (refine wp_region_bel (fun w' h => (unhide HA) w' ((unhide HB _).trans (h.mono (unhide HB _).size))) (by kernel_rfl) (by kernel_rfl) ?_; (repeat (go_big_quiet_step (fail))); refine wpQuiet_nil ?_; rintro _ ⟨y, rfl⟩; (first | go_wp2_with fail | go_wp2))
          go_ret
          exact ⟨ret_int (by rw [unR, unR_at (unhide HMK) (unhide HY) hall.out]), (unhide BW).trans ((unhide HB _).mono (unhide BW).size)⟩
      · have i1 : ¬ (k : Int) < (xs.length : Int) := by omega
        have HZ : Hid (unR xs ys = -1) := hide (by rw [unR, unR_no (fun j hj => hall.out j (by omega))])
        go_wp2_with fail
        go_ret
        exact ⟨ret_int (unhide HZ).symm, unhide BW⟩

end Go.Proofs.Ytfnnfldfnjnlfag

namespace Go.Proofs.Ytfnnfldfnjnlfag
open Go.RowKit

set_option maxRecDepth 20000 in
set_option maxHeartbeats 4000000 in
theorem implSame20_any (a1 : Option Addr) (l1 c1 : Nat) (A : List (List Int)) (a2 : Option Addr) (l2 c2 : Nat) (B : List (List Int)) (w : World) (hr1 : RowS w a1 l1 A) (hr2 : RowS w a2 l2 B) :
    Calls Try.prog 23 #[.slice a1 l1 c1, .slice a2 l2 c2] w fun e w' => e = .returned (.tuple #[.int .i64 (dfR A B), .int .i64 (dfCo A B), .bool (dfO A B)]) ∧ Below w.heap.size w w' := by
  have hz1 := hr1.len_eq
  have hz2 := hr2.len_eq
  have hs1 := hr1.small
  have hs2 := hr2.small
  have H1 := hide hr1
  have H2 := hide hr2
  clear hr1 hr2
  subst hz1
  subst hz2
  cases q1 : rcB A
  · have HE := hide (df_no (A := A) (B := B) (by rw [q1]; rfl))
    rw [(unhide HE).1, (unhide HE).2.1, (unhide HE).2.2]
    go_enter Try.func23, Try.ntmps23
    go_wp2_with fail
    refine (implRecordOk_is _ _ _ A _ (unhide H1) q1).mono ?_
    rintro e w1 ⟨rfl, b1⟩
    have B1 := hide b1
    clear b1
    go_wp2_with fail
    refine bodyPost_ret (v := .tuple #[.int .i64 (-2), .int .i64 (-2), .bool false]) (by simp [results, Try.results23, go_sem]) rfl ⟨rfl, unhide B1⟩
  cases q2 : rcB B
  · have HE := hide (df_no (A := A) (B := B) (by rw [q1, q2]; rfl))
    rw [(unhide HE).1, (unhide HE).2.1, (unhide HE).2.2]
    go_enter Try.func23, Try.ntmps23
    go_wp2_with fail
    refine (implRecordOk_is _ _ _ A _ (unhide H1) q1).mono ?_
    rintro e w1 ⟨rfl, b1⟩
    have B1 := hide b1
    clear b1
    go_wp2_with fail
    refine (implRecordOk_is _ _ _ B _ ((unhide H2).below (unhide B1)) q2).mono ?_
    rintro e w2 ⟨rfl, b2⟩
    have B2 := hide ((unhide B1).trans (b2.mono (unhide B1).size))
    clear b2
    go_wp2_with fail
    refine bodyPost_ret (v := .tuple #[.int .i64 (-2), .int .i64 (-2), .bool false]) (by simp [results, Try.results23, go_sem]) rfl ⟨rfl, unhide B2⟩
  have HQ : Hid ((rcB A && rcB B) = true) := hide (by rw [q1, q2]; rfl)
  go_enter Try.func23, Try.ntmps23
  go_wp2_with fail
  refine (implRecordOk_is _ _ _ A _ (unhide H1) q1).mono ?_
  rintro e w1 ⟨rfl, b1⟩
  have B1 := hide b1
  clear b1
  go_wp2_with fail
  refine (implRecordOk_is _ _ _ B _ ((unhide H2).below (unhide B1)) q2).mono ?_
  rintro e w2 ⟨rfl, b2⟩
  have B2 := hide ((unhide B1).trans (b2.mono (unhide B1).size))
  clear b2 B1 q1 q2
  by_cases hmx : (A.length : Int) < (B.length : Int)
  · go_wp2_with fail
    go_loopw [22] (fun i wr => ∃ k : Nat, k ≤ B.length ∧ i = .int .i64 k ∧ Hid (∀ j, j < k → unF (nthS A j) (nthS B j) = none) ∧ Below w.heap.size w wr) (fun i _ => B.length - (intOf i).toNat)
    case atStart => exact ⟨0, Nat.zero_le _, rfl, (fun j hj => by omega), unhide B2⟩
    case round =>
      clear B2
      obtain ⟨k, hk, rfl, hall, hbel⟩ := hrel
      have BW := hide hbel
      clear hbel
      by_cases hlt : k < B.length
      · have i1 : (k : Int) < (B.length : Int) := by omega
        have HMK : Hid (k < max A.length B.length) := hide (by omega)
        go_wp2_with fail
        refine (rowAt_any _ _ _ k A _ ((unhide H1).below (unhide BW))).mono ?_
        rintro e w3 ⟨p1, n1, d1, rfl, r3, b3⟩
        have B3 := hide ((unhide BW).trans (b3.mono (unhide BW).size))
        have R3 := hide r3
        clear r3 b3
        go_wp2_with fail
        refine (rowAt_any _ _ _ k B _ ((unhide H2).below (unhide B3))).mono ?_
        rintro e w4 ⟨p2, n2, d2, rfl, r4, b4⟩
        have B4 := hide ((unhide B3).trans (b4.mono (unhide B3).size))
        have R3 := hide ((unhide R3).below b4)
        have R4 := hide r4
        clear r4 b4
        go_wp2_with fail
        refine (firstUnlike_any _ _ _ _ _ _ (nthS A k) (nthS B k) _ (unhide R3) (unhide R4)).mono ?_
        rintro e w5 ⟨rfl, b5⟩
        have B5 := hide ((unhide B4).trans (b5.mono (unhide B4).size))
        clear b5
        cases hu : unF (nthS A k) (nthS B k) with
        | none =>
          have HU := hide hu
          have eu : unR (nthS A k) (nthS B k) = -1 := by rw [unR, hu]
          rw [eu]
          clear hu eu
          go_wp2_with fail
          go_roundw
          case rel => exact ⟨k + 1, by omega, by go_num, (fun j hj => by rcases Nat.lt_succ_iff_lt_or_eq.1 hj with h | h; exact hall.out j h; subst h; exact unhide HU), unhide B5⟩
          case measure => simp [intOf]; omega
        | some m =>
          have HU := hide hu
          have eu : unR (nthS A k) (nthS B k) = (m : Int) := by rw [unR, hu]
          have em : ((m : Int) != -1) = true := by simp
          rw [eu]
          clear hu eu
          go_wp2_with fail
          refine bodyPost_ret (v := .tuple #[.int .i64 (k : Int), .int .i64 (m : Int), .bool false]) (by simp [results, Try.results23, go_sem]) rfl ?_
          have HD := hide (df_here (unhide HQ) (unhide HMK) (unhide HU) hall.out)
          rw [(unhide HD).1, (unhide HD).2.1, (unhide HD).2.2]
          exact ⟨rfl, unhide B5⟩
      · have i1 : ¬ (k : Int) < (B.length : Int) := by omega
        go_wp2_with fail
        refine bodyPost_ret (v := .tuple #[.int .i64 (-1), .int .i64 (-1), .bool true]) (by simp [results, Try.results23, go_sem]) rfl ?_
        have HD := hide (df_none (unhide HQ) (fun j hj => hall.out j (by omega)))
        rw [(unhide HD).1, (unhide HD).2.1, (unhide HD).2.2]
        exact ⟨rfl, unhide BW⟩
  · go_wp2_with fail
    go_loopw [22] (fun i wr => ∃ k : Nat, k ≤ A.length ∧ i = .int .i64 k ∧ Hid (∀ j, j < k → unF (nthS A j) (nthS B j) = none) ∧ Below w.heap.size w wr) (fun i _ => A.length - (intOf i).toNat)
    case atStart => exact ⟨0, Nat.zero_le _, rfl, (fun j hj => by omega), unhide B2⟩
    case round =>
      clear B2
      obtain ⟨k, hk, rfl, hall, hbel⟩ := hrel
      have BW := hide hbel
      clear hbel
      by_cases hlt : k < A.length
      · have i1 : (k : Int) < (A.length : Int) := by omega
        have HMK : Hid (k < max A.length B.length) := hide (by omega)
        go_wp2_with fail
        refine (rowAt_any _ _ _ k A _ ((unhide H1).below (unhide BW))).mono ?_
        rintro e w3 ⟨p1, n1, d1, rfl, r3, b3⟩
        have B3 := hide ((unhide BW).trans (b3.mono (unhide BW).size))
        have R3 := hide r3
        clear r3 b3
        go_wp2_with fail
        refine (rowAt_any _ _ _ k B _ ((unhide H2).below (unhide B3))).mono ?_
        rintro e w4 ⟨p2, n2, d2, rfl, r4, b4⟩
        have B4 := hide ((unhide B3).trans (b4.mono (unhide B3).size))
        have R3 := hide ((unhide R3).below b4)
        have R4 := hide r4
        clear r4 b4
        go_wp2_with fail
        refine (firstUnlike_any _ _ _ _ _ _ (nthS A k) (nthS B k) _ (unhide R3) (unhide R4)).mono ?_
        rintro e w5 ⟨rfl, b5⟩
        have B5 := hide ((unhide B4).trans (b5.mono (unhide B4).size))
        clear b5
        cases hu : unF (nthS A k) (nthS B k) with
        | none =>
          have HU := hide hu
          have eu : unR (nthS A k) (nthS B k) = -1 := by rw [unR, hu]
          rw [eu]
          clear hu eu
          go_wp2_with fail
          go_roundw
          case rel => exact ⟨k + 1, by omega, by go_num, (fun j hj => by rcases Nat.lt_succ_iff_lt_or_eq.1 hj with h | h; exact hall.out j h; subst h; exact unhide HU), unhide B5⟩
          case measure => simp [intOf]; omega
        | some m =>
          have HU := hide hu
          have eu : unR (nthS A k) (nthS B k) = (m : Int) := by rw [unR, hu]
          have em : ((m : Int) != -1) = true := by simp
          rw [eu]
          clear hu eu
          go_wp2_with fail
          refine bodyPost_ret (v := .tuple #[.int .i64 (k : Int), .int .i64 (m : Int), .bool false]) (by simp [results, Try.results23, go_sem]) rfl ?_
          have HD := hide (df_here (unhide HQ) (unhide HMK) (unhide HU) hall.out)
          rw [(unhide HD).1, (unhide HD).2.1, (unhide HD).2.2]
          exact ⟨rfl, unhide B5⟩
      · have i1 : ¬ (k : Int) < (A.length : Int) := by omega
        go_wp2_with fail
        refine bodyPost_ret (v := .tuple #[.int .i64 (-1), .int .i64 (-1), .bool true]) (by simp [results, Try.results23, go_sem]) rfl ?_
        have HD := hide (df_none (unhide HQ) (fun j hj => hall.out j (by omega)))
        rw [(unhide HD).1, (unhide HD).2.1, (unhide HD).2.2]
        exact ⟨rfl, unhide BW⟩

end Go.Proofs.Ytfnnfldfnjnlfag

namespace Go.Proofs.Ytfnnfldfnjnlfag

theorem same_self {A : List (List Int)} (h : rcB A = true) : dfR A A = -1 ∧ dfCo A A = -1 ∧ dfO A A = true :=
  df_none (by rw [h]; rfl) (fun j _ => unR_no (fun k hk => unI_f (by omega) (by omega) rfl))
/-- One value changed. -/
def oneC (A : List (List Int)) (i k : Nat) (y : Int) : List (List Int) := A.set i ((nthS A i).set k y)
theorem oneC_len (A : List (List Int)) (i k : Nat) (y : Int) : (oneC A i k y).length = A.length := by simp [oneC]
theorem oneC_at {A : List (List Int)} {i k : Nat} {y : Int} (hi : i < A.length) : nthS (oneC A i k y) i = (nthS A i).set k y := by
  simp [oneC, nthS, hi]
theorem oneC_off {A : List (List Int)} {i j k : Nat} {y : Int} (h : j ≠ i) : nthS (oneC A i k y) j = nthS A j := by
  unfold oneC nthS
  rw [List.getElem?_set_ne (by omega)]
theorem set_at {r : List Int} {k : Nat} {y : Int} (h : k < r.length) : nth (r.set k y) k = y := by simp [nth, h]
theorem set_off {r : List Int} {j k : Nat} {y : Int} (h : j ≠ k) : nth (r.set k y) j = nth r j := by
  unfold nth
  rw [List.getElem?_set_ne (by omega)]
theorem oneC_w {A : List (List Int)} {i k j : Nat} {y : Int} (hi : i < A.length) : (nthS (oneC A i k y) j).length = (nthS A j).length := by
  by_cases e : j = i
  · subst e; rw [oneC_at hi]; simp
  · rw [oneC_off e]
theorem oneC_ok {A : List (List Int)} (h : rcB A = true) {i k : Nat} {y : Int} (hi : i < A.length) (h1 : -30000 ≤ y) (h2 : y ≤ 30000) : rcB (oneC A i k y) = true := by
  have f := rcB_facts h
  refine rcB_yes (fun j hj => ?_) (by rw [oneC_len]; exact f.1)
  rw [oneC_len] at hj
  have g := f.2 j hj
  rw [rwB, oneC_w hi, oneC_w hi, Bool.and_eq_true, Bool.and_eq_true]
  refine ⟨⟨by rw [g.1]; simp, by simp [inB]; omega⟩, allB_true (fun c hc => ?_)⟩
  rw [oneC_w hi] at hc
  have v := g.2.2.2 c hc
  by_cases e : j = i
  · subst e
    rw [oneC_at hi]
    by_cases ek : c = k
    · subst ek; rw [set_at hc]; simp [inB]; omega
    · rw [set_off ek]; simp [inB]; omega
  · rw [oneC_off e]; simp [inB]; omega
theorem oneC_bad {A : List (List Int)} {i k : Nat} {y : Int} (hi : i < A.length) (hk : k < (nthS A i).length) (hy : y < -30000 ∨ 30000 < y) : rcB (oneC A i k y) = false := by
  cases e : rcB (oneC A i k y)
  · rfl
  · have := ((rcB_facts e).2 i (by rw [oneC_len]; exact hi)).2.2.2 k (by rw [oneC_w hi]; exact hk)
    rw [oneC_at hi, set_at hk] at this
    omega
theorem same_one {A : List (List Int)} (h : rcB A = true) {i k : Nat} {y : Int} (hi : i < A.length) (hk : k < (nthS A i).length) (h1 : -30000 ≤ y) (h2 : y ≤ 30000) (hy : y ≠ nth (nthS A i) k) : dfR A (oneC A i k y) = i ∧ dfCo A (oneC A i k y) = k ∧ dfO A (oneC A i k y) = false := by
  refine df_here (by rw [h, oneC_ok h hi h1 h2]; rfl) (by rw [oneC_len]; omega) ?_ (fun j hj => ?_)
  · refine unR_at (by omega) (unI_n (by rw [oneC_at hi, set_at hk]; exact fun e => hy e.symm)) (fun c hc => unI_f (by omega) (by rw [oneC_w hi]; omega) (by rw [oneC_at hi, set_off (by omega)]))
  · rw [oneC_off (by omega)]
    exact unR_no (fun c hc => unI_f (by omega) (by omega) rfl)
theorem same_bad {A : List (List Int)} {i k : Nat} {y : Int} (hi : i < A.length) (hk : k < (nthS A i).length) (hy : y < -30000 ∨ 30000 < y) : dfR A (oneC A i k y) = -2 ∧ dfCo A (oneC A i k y) = -2 ∧ dfO A (oneC A i k y) = false :=
  df_no (by rw [oneC_bad hi hk hy]; simp)
theorem pkI_len4 {z : List (List Int)} (h : wdN z ≤ 4) : ∀ i, (pkI z i).length ≤ 2 + 16 * i
  | 0 => by simp [pkI]
  | i + 1 => by have := pkI_len4 h i; have := pkJ_len z i (wdN z); rw [pkI, List.length_append]; omega
theorem rcD_fits {z : List (List Int)} (h : RcD z) : pkB z = true := by
  have hw : wdN z ≤ 4 := by
    by_cases h0 : z.length = 0
    · rw [wdN_nil h0]; omega
    · exact (rcD_wd h (by omega)).2
  have hl := pkI_len4 hw z.length
  obtain ⟨_, _, h39, _⟩ := id h
  rw [pkB, rcD_ok h, pkF]
  simp; omega

end Go.Proofs.Ytfnnfldfnjnlfag
