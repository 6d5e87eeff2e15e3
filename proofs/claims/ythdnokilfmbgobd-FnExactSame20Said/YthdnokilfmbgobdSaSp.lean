/-
  What the model's Same20 answers: where two records differ first. At every two lists of rows; nothing that was there is written.
-/
import Derived.Test.YthdnokilfmbgobdSaFu
namespace Go.Proofs.Ythdnokilfmbgobd
open Go.RowKit

set_option maxRecDepth 20000 in
set_option maxHeartbeats 4000000 in
theorem specSame20_any (a1 : Option Addr) (l1 c1 : Nat) (A : List (List Int)) (a2 : Option Addr) (l2 c2 : Nat) (B : List (List Int)) (w : World) (hr1 : RowS w a1 l1 A) (hr2 : RowS w a2 l2 B) :
    Calls Try.prog 24 #[.slice a1 l1 c1, .slice a2 l2 c2] w fun e w' => e = .returned (.tuple #[.int .i64 (dfR A B), .int .i64 (dfCo A B), .bool (dfO A B)]) ∧ Below w.heap.size w w' := by
  have hz1 := hr1.len_eq
  have hz2 := hr2.len_eq
  have hs1 := hr1.small
  have hs2 := hr2.small
  have H1 := hide hr1
  have H2 := hide hr2
  clear hr1 hr2
  subst hz1
  subst hz2
  cases q1 : rcB A
  · have HE := hide (df_no (A := A) (B := B) (by rw [q1]; rfl))
    rw [(unhide HE).1, (unhide HE).2.1, (unhide HE).2.2]
    go_enter Try.func24, Try.ntmps24
    go_wp2_with fail
    refine (specRecordOk_is _ _ _ A _ (unhide H1) q1).mono ?_
    rintro e w1 ⟨rfl, b1⟩
    have B1 := hide b1
    clear b1
    go_wp2_with fail
    refine bodyPost_ret (v := .tuple #[.int .i64 (-2), .int .i64 (-2), .bool false]) (by simp [results, Try.results24, go_sem]) rfl ⟨rfl, unhide B1⟩
  cases q2 : rcB B
  · have HE := hide (df_no (A := A) (B := B) (by rw [q1, q2]; rfl))
    rw [(unhide HE).1, (unhide HE).2.1, (unhide HE).2.2]
    go_enter Try.func24, Try.ntmps24
    go_wp2_with fail
    refine (specRecordOk_is _ _ _ A _ (unhide H1) q1).mono ?_
    rintro e w1 ⟨rfl, b1⟩
    have B1 := hide b1
    clear b1
    go_wp2_with fail
    refine (specRecordOk_is _ _ _ B _ ((unhide H2).below (unhide B1)) q2).mono ?_
    rintro e w2 ⟨rfl, b2⟩
    have B2 := hide ((unhide B1).trans (b2.mono (unhide B1).size))
    clear b2
    go_wp2_with fail
    refine bodyPost_ret (v := .tuple #[.int .i64 (-2), .int .i64 (-2), .bool false]) (by simp [results, Try.results24, go_sem]) rfl ⟨rfl, unhide B2⟩
  have HQ : Hid ((rcB A && rcB B) = true) := hide (by rw [q1, q2]; rfl)
  go_enter Try.func24, Try.ntmps24
  go_wp2_with fail
  refine (specRecordOk_is _ _ _ A _ (unhide H1) q1).mono ?_
  rintro e w1 ⟨rfl, b1⟩
  have B1 := hide b1
  clear b1
  go_wp2_with fail
  refine (specRecordOk_is _ _ _ B _ ((unhide H2).below (unhide B1)) q2).mono ?_
  rintro e w2 ⟨rfl, b2⟩
  have B2 := hide ((unhide B1).trans (b2.mono (unhide B1).size))
  clear b2 B1 q1 q2
  go_wp2_with fail
  go_loopw [7] (fun i wr => ∃ k : Nat, k ≤ max A.length B.length ∧ i = .int .i64 k ∧ Hid (∀ j, j < k → unF (nthS A j) (nthS B j) = none) ∧ Below w.heap.size w wr) (fun i _ => max A.length B.length - (intOf i).toNat)
  case atStart => exact ⟨0, Nat.zero_le _, rfl, (fun j hj => by omega), unhide B2⟩
  case round =>
    clear B2
    obtain ⟨k, hk, rfl, hall, hbel⟩ := hrel
    have BW := hide hbel
    clear hbel
    by_cases h1 : k < A.length
    · by_cases h2 : k < B.length
      · skip
        have ai : (k : Int) < (A.length : Int) := by omega
        have aa : decide ((k : Int) < (A.length : Int)) = true := by simp; omega
        have ab : decide (k < A.length) = true := by simp; omega
        have ci : ¬ (A.length : Int) ≤ (k : Int) := by omega
        have ca : decide ((A.length : Int) ≤ (k : Int)) = false := by simp; omega
        have cb : decide (A.length ≤ k) = false := by simp; omega
        have bi : (k : Int) < (B.length : Int) := by omega
        have ba : decide ((k : Int) < (B.length : Int)) = true := by simp; omega
        have bb : decide (k < B.length) = true := by simp; omega
        have di : ¬ (B.length : Int) ≤ (k : Int) := by omega
        have da : decide ((B.length : Int) ≤ (k : Int)) = false := by simp; omega
        have db : decide (B.length ≤ k) = false := by simp; omega
        have HMK : Hid (k < max A.length B.length) := hide (by omega)
        rcases (unhide H1).open_ with ⟨h0, _⟩ | ⟨b1, o1, rfl, _, hc1⟩
        · omega
        rcases (unhide H2).open_ with ⟨h0, _⟩ | ⟨b2, o2, rfl, _, hc2⟩
        · omega
        obtain ⟨p1, n1, d1, ck1, rk1, _⟩ := hc1 k h1
        obtain ⟨p2, n2, d2, ck2, rk2, _⟩ := hc2 k h2
        have hl1 := rk1.len_eq
        have hl2 := rk2.len_eq
        have hm1 := rk1.small
        have hm2 := rk2.small
        have O1 := hide rk1.open_
        have O2 := hide rk2.open_
        obtain ⟨xs, hxs⟩ : ∃ xs, xs = nthS A k := ⟨_, rfl⟩
        obtain ⟨ys, hys⟩ : ∃ ys, ys = nthS B k := ⟨_, rfl⟩
        rw [← hxs] at hl1 O1
        rw [← hys] at hl2 O2
        have HX := hide hxs
        have HYS := hide hys
        have L1 := hide hl1
        have L2 := hide hl2
        have C1 := hide ck1
        have C2 := hide ck2
        clear hc1 hc2 rk1 rk2 hxs hys hl1 hl2 ck1 ck2
        go_wp2_with fail
        go_loopw [8] (fun i wx => ∃ j : Nat, j ≤ max n1 n2 ∧ i = .int .i64 j ∧ Hid (∀ q, q < j → unI xs ys q = false) ∧ Below w.heap.size w wx) (fun i _ => max n1 n2 - (intOf i).toNat)
        case atStart => exact ⟨0, Nat.zero_le _, rfl, (fun j hj => by omega), unhide BW⟩
        case round =>
          clear BW
          obtain ⟨j, hj, rfl, hun, hbx⟩ := hrel
          have BX := hide hbx
          clear hbx
          obtain ⟨ι, fW, _, hcb, hcl⟩ := belClass wr
          have HB := hide hcb
          have HA := hide hcl
          obtain ⟨y0, h0⟩ := hcl wr (Below.refl _ _)
          have z1 : ∀ x, (fW x).cell? ⟨b1, o1 + k, none⟩ = some (.slice p1 n1 d1) := fun x => (((unhide BX).trans ((hcb x).mono (unhide BX).size)).cell (block_lt_of_cell (unhide C1))).trans (unhide C1)
          have z2 : ∀ x, (fW x).cell? ⟨b2, o2 + k, none⟩ = some (.slice p2 n2 d2) := fun x => (((unhide BX).trans ((hcb x).mono (unhide BX).size)).cell (block_lt_of_cell (unhide C2))).trans (unhide C2)
          rw [h0]
          have k0 : (0 : Int) ≤ (k : Int) := by omega
          have j0 : (0 : Int) ≤ (j : Int) := by omega
          clear hcb hcl h0
          by_cases g1 : j < n1
          · by_cases g2 : j < n2
            · skip
              have ei : (j : Int) < (n1 : Int) := by omega
              have ea : decide ((j : Int) < (n1 : Int)) = true := by simp; omega
              have eb : decide (j < n1) = true := by simp; omega
              have fi : ¬ (n1 : Int) ≤ (j : Int) := by omega
              have fa : decide ((n1 : Int) ≤ (j : Int)) = false := by simp; omega
              have fb : decide (n1 ≤ j) = false := by simp; omega
              have gi : (j : Int) < (n2 : Int) := by omega
              have ga : decide ((j : Int) < (n2 : Int)) = true := by simp; omega
              have gb : decide (j < n2) = true := by simp; omega
              have hi : ¬ (n2 : Int) ≤ (j : Int) := by omega
              have ha : decide ((n2 : Int) ≤ (j : Int)) = false := by simp; omega
              have hb : decide (n2 ≤ j) = false := by simp; omega
              rcases (unhide O1) with ⟨h0, _⟩ | ⟨c1, u1, rfl, _, hc1⟩
              · omega
              rcases (unhide O2) with ⟨h0, _⟩ | ⟨c2, u2, rfl, _, hc2⟩
              · omega
              have x1 : ∀ x, (fW x).cell? ⟨c1, u1 + j, none⟩ = some (.int .i64 (nth xs j)) := fun x => (((unhide BX).trans ((unhide HB x).mono (unhide BX).size)).cell (block_lt_of_cell (hc1 j g1))).trans (hc1 j g1)
              have x2 : ∀ x, (fW x).cell? ⟨c2, u2 + j, none⟩ = some (.int .i64 (nth ys j)) := fun x => (((unhide BX).trans ((unhide HB x).mono (unhide BX).size)).cell (block_lt_of_cell (hc2 j g2))).trans (hc2 j g2)
              clear hc1 hc2
              by_cases q3 : nth xs j = nth ys j
              · skip
                have HN := hide q3
                have n3 : (nth xs j != nth ys j) = false := by simp [q3]
                clear q3
                have HY : Hid (unI xs ys j = false) := hide (by have e1 := unhide L1; have e2 := unhide L2; exact unI_f (by omega) (by omega) (unhide HN))
                have HJ : Hid (j < max xs.length ys.length) := hide (by have e1 := unhide L1; have e2 := unhide L2; omega)
                go_wp2_with fail
                repeat (refine wp_region_bel (fun w' h => (unhide HA) w' ((unhide HB _).trans (h.mono (unhide HB _).size))) (by kernel_rfl) (by kernel_rfl) ?_; (repeat (go_big_quiet_step (fail))); refine wpQuiet_nil ?_; rintro _ ⟨y, rfl⟩; (first | go_wp2_with fail | go_wp2))
                go_roundw
                case rel => exact ⟨j + 1, by omega, by go_num, (fun q hq => by rcases Nat.lt_succ_iff_lt_or_eq.1 hq with h | h; exact hun.out q h; subst h; exact unhide HY), (unhide BX).trans ((unhide HB _).mono (unhide BX).size)⟩
                case measure => simp [intOf]; omega
              · skip
                have HN := hide q3
                have n3 : (nth xs j != nth ys j) = true := by simp [q3]
                clear q3
                have HY : Hid (unI xs ys j = true) := hide (by have e1 := unhide L1; have e2 := unhide L2; exact unI_n (unhide HN))
                have HJ : Hid (j < max xs.length ys.length) := hide (by have e1 := unhide L1; have e2 := unhide L2; omega)
                go_wp2_with fail
                repeat (refine wp_region_bel (fun w' h => (unhide HA) w' ((unhide HB _).trans (h.mono (unhide HB _).size))) (by kernel_rfl) (by kernel_rfl) ?_; (repeat (go_big_quiet_step (fail))); refine wpQuiet_nil ?_; rintro _ ⟨y, rfl⟩; (first | go_wp2_with fail | go_wp2))
                have HU : Hid (unF (nthS A k) (nthS B k) = some j) := hide (by rw [← unhide HX, ← unhide HYS]; exact unR_at (unhide HJ) (unhide HY) hun.out)
                refine bodyPost_ret (v := .tuple #[.int .i64 (k : Int), .int .i64 (j : Int), .bool false]) (by simp [results, Try.results24, go_sem]) rfl ?_
                have HD := hide (df_here (unhide HQ) (unhide HMK) (unhide HU) hall.out)
                rw [(unhide HD).1, (unhide HD).2.1, (unhide HD).2.2]
                exact ⟨rfl, (unhide BX).trans ((unhide HB _).mono (unhide BX).size)⟩
            · skip
              have ei : (j : Int) < (n1 : Int) := by omega
              have ea : decide ((j : Int) < (n1 : Int)) = true := by simp; omega
              have eb : decide (j < n1) = true := by simp; omega
              have fi : ¬ (n1 : Int) ≤ (j : Int) := by omega
              have fa : decide ((n1 : Int) ≤ (j : Int)) = false := by simp; omega
              have fb : decide (n1 ≤ j) = false := by simp; omega
              have gi : ¬ (j : Int) < (n2 : Int) := by omega
              have ga : decide ((j : Int) < (n2 : Int)) = false := by simp; omega
              have gb : decide (j < n2) = false := by simp; omega
              have hi : (n2 : Int) ≤ (j : Int) := by omega
              have ha : decide ((n2 : Int) ≤ (j : Int)) = true := by simp; omega
              have hb : decide (n2 ≤ j) = true := by simp; omega
              have HY : Hid (unI xs ys j = true) := hide (by have e1 := unhide L1; have e2 := unhide L2; exact unI_b (by omega))
              have HJ : Hid (j < max xs.length ys.length) := hide (by have e1 := unhide L1; have e2 := unhide L2; omega)
              go_wp2_with fail
              repeat (refine wp_region_bel (fun w' h => (unhide HA) w' ((unhide HB _).trans (h.mono (unhide HB _).size))) (by kernel_rfl) (by kernel_rfl) ?_; (repeat (go_big_quiet_step (fail))); refine wpQuiet_nil ?_; rintro _ ⟨y, rfl⟩; (first | go_wp2_with fail | go_wp2))
              have HU : Hid (unF (nthS A k) (nthS B k) = some j) := hide (by rw [← unhide HX, ← unhide HYS]; exact unR_at (unhide HJ) (unhide HY) hun.out)
              refine bodyPost_ret (v := .tuple #[.int .i64 (k : Int), .int .i64 (j : Int), .bool false]) (by simp [results, Try.results24, go_sem]) rfl ?_
              have HD := hide (df_here (unhide HQ) (unhide HMK) (unhide HU) hall.out)
              rw [(unhide HD).1, (unhide HD).2.1, (unhide HD).2.2]
              exact ⟨rfl, (unhide BX).trans ((unhide HB _).mono (unhide BX).size)⟩
          · by_cases g2 : j < n2
            · skip
              have ei : ¬ (j : Int) < (n1 : Int) := by omega
              have ea : decide ((j : Int) < (n1 : Int)) = false := by simp; omega
              have eb : decide (j < n1) = false := by simp; omega
              have fi : (n1 : Int) ≤ (j : Int) := by omega
              have fa : decide ((n1 : Int) ≤ (j : Int)) = true := by simp; omega
              have fb : decide (n1 ≤ j) = true := by simp; omega
              have gi : (j : Int) < (n2 : Int) := by omega
              have ga : decide ((j : Int) < (n2 : Int)) = true := by simp; omega
              have gb : decide (j < n2) = true := by simp; omega
              have hi : ¬ (n2 : Int) ≤ (j : Int) := by omega
              have ha : decide ((n2 : Int) ≤ (j : Int)) = false := by simp; omega
              have hb : decide (n2 ≤ j) = false := by simp; omega
              have HY : Hid (unI xs ys j = true) := hide (by have e1 := unhide L1; have e2 := unhide L2; exact unI_a (by omega))
              have HJ : Hid (j < max xs.length ys.length) := hide (by have e1 := unhide L1; have e2 := unhide L2; omega)
              go_wp2_with fail
              repeat (refine wp_region_bel (fun w' h => (unhide HA) w' ((unhide HB _).trans (h.mono (unhide HB _).size))) (by kernel_rfl) (by kernel_rfl) ?_; (repeat (go_big_quiet_step (fail))); refine wpQuiet_nil ?_; rintro _ ⟨y, rfl⟩; (first | go_wp2_with fail | go_wp2))
              have HU : Hid (unF (nthS A k) (nthS B k) = some j) := hide (by rw [← unhide HX, ← unhide HYS]; exact unR_at (unhide HJ) (unhide HY) hun.out)
              refine bodyPost_ret (v := .tuple #[.int .i64 (k : Int), .int .i64 (j : Int), .bool false]) (by simp [results, Try.results24, go_sem]) rfl ?_
              have HD := hide (df_here (unhide HQ) (unhide HMK) (unhide HU) hall.out)
              rw [(unhide HD).1, (unhide HD).2.1, (unhide HD).2.2]
              exact ⟨rfl, (unhide BX).trans ((unhide HB _).mono (unhide BX).size)⟩
            · skip
              have ei : ¬ (j : Int) < (n1 : Int) := by omega
              have ea : decide ((j : Int) < (n1 : Int)) = false := by simp; omega
              have eb : decide (j < n1) = false := by simp; omega
              have gi : ¬ (j : Int) < (n2 : Int) := by omega
              have ga : decide ((j : Int) < (n2 : Int)) = false := by simp; omega
              have gb : decide (j < n2) = false := by simp; omega
              have HU : Hid (unF (nthS A k) (nthS B k) = none) := hide (by have e1 := unhide L1; have e2 := unhide L2; rw [← unhide HX, ← unhide HYS]; exact unR_no (fun q hq => hun.out q (by omega)))
              go_wp2_with fail
              repeat (refine wp_region_bel (fun w' h => (unhide HA) w' ((unhide HB _).trans (h.mono (unhide HB _).size))) (by kernel_rfl) (by kernel_rfl) ?_; (repeat (go_big_quiet_step (fail))); refine wpQuiet_nil ?_; rintro _ ⟨y, rfl⟩; (first | go_wp2_with fail | go_wp2))
              go_roundw
              case rel => exact ⟨k + 1, by omega, by go_num, (fun j hj => by rcases Nat.lt_succ_iff_lt_or_eq.1 hj with h | h; exact hall.out j h; subst h; exact unhide HU), (unhide BX).trans ((unhide HB _).mono (unhide BX).size)⟩
              case measure => simp [intOf]; omega
      · skip
        have ai : (k : Int) < (A.length : Int) := by omega
        have aa : decide ((k : Int) < (A.length : Int)) = true := by simp; omega
        have ab : decide (k < A.length) = true := by simp; omega
        have ci : ¬ (A.length : Int) ≤ (k : Int) := by omega
        have ca : decide ((A.length : Int) ≤ (k : Int)) = false := by simp; omega
        have cb : decide (A.length ≤ k) = false := by simp; omega
        have bi : ¬ (k : Int) < (B.length : Int) := by omega
        have ba : decide ((k : Int) < (B.length : Int)) = false := by simp; omega
        have bb : decide (k < B.length) = false := by simp; omega
        have di : (B.length : Int) ≤ (k : Int) := by omega
        have da : decide ((B.length : Int) ≤ (k : Int)) = true := by simp; omega
        have db : decide (B.length ≤ k) = true := by simp; omega
        have HMK : Hid (k < max A.length B.length) := hide (by omega)
        have HU := hide (un_lack (unhide HQ) (unhide HMK) (by omega))
        go_wp2_with fail
        refine bodyPost_ret (v := .tuple #[.int .i64 (k : Int), .int .i64 0, .bool false]) (by simp [results, Try.results24, go_sem]) rfl ?_
        have HD := hide (df_here (unhide HQ) (unhide HMK) (unhide HU) hall.out)
        rw [(unhide HD).1, (unhide HD).2.1, (unhide HD).2.2]
        exact ⟨rfl, unhide BW⟩
    · by_cases h2 : k < B.length
      · skip
        have ai : ¬ (k : Int) < (A.length : Int) := by omega
        have aa : decide ((k : Int) < (A.length : Int)) = false := by simp; omega
        have ab : decide (k < A.length) = false := by simp; omega
        have ci : (A.length : Int) ≤ (k : Int) := by omega
        have ca : decide ((A.length : Int) ≤ (k : Int)) = true := by simp; omega
        have cb : decide (A.length ≤ k) = true := by simp; omega
        have bi : (k : Int) < (B.length : Int) := by omega
        have ba : decide ((k : Int) < (B.length : Int)) = true := by simp; omega
        have bb : decide (k < B.length) = true := by simp; omega
        have di : ¬ (B.length : Int) ≤ (k : Int) := by omega
        have da : decide ((B.length : Int) ≤ (k : Int)) = false := by simp; omega
        have db : decide (B.length ≤ k) = false := by simp; omega
        have HMK : Hid (k < max A.length B.length) := hide (by omega)
        have HU := hide (un_lack (unhide HQ) (unhide HMK) (by omega))
        go_wp2_with fail
        refine bodyPost_ret (v := .tuple #[.int .i64 (k : Int), .int .i64 0, .bool false]) (by simp [results, Try.results24, go_sem]) rfl ?_
        have HD := hide (df_here (unhide HQ) (unhide HMK) (unhide HU) hall.out)
        rw [(unhide HD).1, (unhide HD).2.1, (unhide HD).2.2]
        exact ⟨rfl, unhide BW⟩
      · skip
        have ai : ¬ (k : Int) < (A.length : Int) := by omega
        have aa : decide ((k : Int) < (A.length : Int)) = false := by simp; omega
        have ab : decide (k < A.length) = false := by simp; omega
        have bi : ¬ (k : Int) < (B.length : Int) := by omega
        have ba : decide ((k : Int) < (B.length : Int)) = false := by simp; omega
        have bb : decide (k < B.length) = false := by simp; omega
        go_wp2_with fail
        refine bodyPost_ret (v := .tuple #[.int .i64 (-1), .int .i64 (-1), .bool true]) (by simp [results, Try.results24, go_sem]) rfl ?_
        have HD := hide (df_none (unhide HQ) (fun j hj => hall.out j (by omega)))
        rw [(unhide HD).1, (unhide HD).2.1, (unhide HD).2.2]
        exact ⟨rfl, unhide BW⟩

end Go.Proofs.Ythdnokilfmbgobd
