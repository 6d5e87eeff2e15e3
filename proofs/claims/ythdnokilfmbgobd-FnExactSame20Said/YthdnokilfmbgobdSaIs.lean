/-
  What the program's Same20 answers: where two records differ first. At every two lists of rows; nothing that was there is written.
-/
import Derived.Test.YthdnokilfmbgobdSaFu
namespace Go.Proofs.Ythdnokilfmbgobd
open Go.RowKit

set_option maxRecDepth 20000 in
set_option maxHeartbeats 4000000 in
theorem implSame20_any (a1 : Option Addr) (l1 c1 : Nat) (A : List (List Int)) (a2 : Option Addr) (l2 c2 : Nat) (B : List (List Int)) (w : World) (hr1 : RowS w a1 l1 A) (hr2 : RowS w a2 l2 B) :
    Calls Try.prog 25 #[.slice a1 l1 c1, .slice a2 l2 c2] w fun e w' => e = .returned (.tuple #[.int .i64 (dfR A B), .int .i64 (dfCo A B), .bool (dfO A B)]) ∧ Below w.heap.size w w' := by
  have hz1 := hr1.len_eq
  have hz2 := hr2.len_eq
  have hs1 := hr1.small
  have hs2 := hr2.small
  have H1 := hide hr1
  have H2 := hide hr2
  clear hr1 hr2
  subst hz1
  subst hz2
  cases q1 : rcB A
  · have HE := hide (df_no (A := A) (B := B) (by rw [q1]; rfl))
    rw [(unhide HE).1, (unhide HE).2.1, (unhide HE).2.2]
    go_enter Try.func25, Try.ntmps25
    go_wp2_with fail
    refine (implRecordOk_is _ _ _ A _ (unhide H1) q1).mono ?_
    rintro e w1 ⟨rfl, b1⟩
    have B1 := hide b1
    clear b1
    go_wp2_with fail
    refine bodyPost_ret (v := .tuple #[.int .i64 (-2), .int .i64 (-2), .bool false]) (by simp [results, Try.results25, go_sem]) rfl ⟨rfl, unhide B1⟩
  cases q2 : rcB B
  · have HE := hide (df_no (A := A) (B := B) (by rw [q1, q2]; rfl))
    rw [(unhide HE).1, (unhide HE).2.1, (unhide HE).2.2]
    go_enter Try.func25, Try.ntmps25
    go_wp2_with fail
    refine (implRecordOk_is _ _ _ A _ (unhide H1) q1).mono ?_
    rintro e w1 ⟨rfl, b1⟩
    have B1 := hide b1
    clear b1
    go_wp2_with fail
    refine (implRecordOk_is _ _ _ B _ ((unhide H2).below (unhide B1)) q2).mono ?_
    rintro e w2 ⟨rfl, b2⟩
    have B2 := hide ((unhide B1).trans (b2.mono (unhide B1).size))
    clear b2
    go_wp2_with fail
    refine bodyPost_ret (v := .tuple #[.int .i64 (-2), .int .i64 (-2), .bool false]) (by simp [results, Try.results25, go_sem]) rfl ⟨rfl, unhide B2⟩
  have HQ : Hid ((rcB A && rcB B) = true) := hide (by rw [q1, q2]; rfl)
  go_enter Try.func25, Try.ntmps25
  go_wp2_with fail
  refine (implRecordOk_is _ _ _ A _ (unhide H1) q1).mono ?_
  rintro e w1 ⟨rfl, b1⟩
  have B1 := hide b1
  clear b1
  go_wp2_with fail
  refine (implRecordOk_is _ _ _ B _ ((unhide H2).below (unhide B1)) q2).mono ?_
  rintro e w2 ⟨rfl, b2⟩
  have B2 := hide ((unhide B1).trans (b2.mono (unhide B1).size))
  clear b2 B1 q1 q2
  by_cases hmx : (A.length : Int) < (B.length : Int)
  · go_wp2_with fail
    go_loopw [22] (fun i wr => ∃ k : Nat, k ≤ B.length ∧ i = .int .i64 k ∧ Hid (∀ j, j < k → unF (nthS A j) (nthS B j) = none) ∧ Below w.heap.size w wr) (fun i _ => B.length - (intOf i).toNat)
    case atStart => exact ⟨0, Nat.zero_le _, rfl, (fun j hj => by omega), unhide B2⟩
    case round =>
      clear B2
      obtain ⟨k, hk, rfl, hall, hbel⟩ := hrel
      have BW := hide hbel
      clear hbel
      by_cases hlt : k < B.length
      · have i1 : (k : Int) < (B.length : Int) := by omega
        have HMK : Hid (k < max A.length B.length) := hide (by omega)
        go_wp2_with fail
        refine (rowAt_any _ _ _ k A _ ((unhide H1).below (unhide BW))).mono ?_
        rintro e w3 ⟨p1, n1, d1, rfl, r3, b3⟩
        have B3 := hide ((unhide BW).trans (b3.mono (unhide BW).size))
        have R3 := hide r3
        clear r3 b3
        go_wp2_with fail
        refine (rowAt_any _ _ _ k B _ ((unhide H2).below (unhide B3))).mono ?_
        rintro e w4 ⟨p2, n2, d2, rfl, r4, b4⟩
        have B4 := hide ((unhide B3).trans (b4.mono (unhide B3).size))
        have R3 := hide ((unhide R3).below b4)
        have R4 := hide r4
        clear r4 b4
        go_wp2_with fail
        refine (firstUnlike_any _ _ _ _ _ _ (nthS A k) (nthS B k) _ (unhide R3) (unhide R4)).mono ?_
        rintro e w5 ⟨rfl, b5⟩
        have B5 := hide ((unhide B4).trans (b5.mono (unhide B4).size))
        clear b5
        cases hu : unF (nthS A k) (nthS B k) with
        | none =>
          have HU := hide hu
          have eu : unR (nthS A k) (nthS B k) = -1 := by rw [unR, hu]
          rw [eu]
          clear hu eu
          go_wp2_with fail
          go_roundw
          case rel => exact ⟨k + 1, by omega, by go_num, (fun j hj => by rcases Nat.lt_succ_iff_lt_or_eq.1 hj with h | h; exact hall.out j h; subst h; exact unhide HU), unhide B5⟩
          case measure => simp [intOf]; omega
        | some m =>
          have HU := hide hu
          have eu : unR (nthS A k) (nthS B k) = (m : Int) := by rw [unR, hu]
          have em : ((m : Int) != -1) = true := by simp
          rw [eu]
          clear hu eu
          go_wp2_with fail
          refine bodyPost_ret (v := .tuple #[.int .i64 (k : Int), .int .i64 (m : Int), .bool false]) (by simp [results, Try.results25, go_sem]) rfl ?_
          have HD := hide (df_here (unhide HQ) (unhide HMK) (unhide HU) hall.out)
          rw [(unhide HD).1, (unhide HD).2.1, (unhide HD).2.2]
          exact ⟨rfl, unhide B5⟩
      · have i1 : ¬ (k : Int) < (B.length : Int) := by omega
        go_wp2_with fail
        refine bodyPost_ret (v := .tuple #[.int .i64 (-1), .int .i64 (-1), .bool true]) (by simp [results, Try.results25, go_sem]) rfl ?_
        have HD := hide (df_none (unhide HQ) (fun j hj => hall.out j (by omega)))
        rw [(unhide HD).1, (unhide HD).2.1, (unhide HD).2.2]
        exact ⟨rfl, unhide BW⟩
  · go_wp2_with fail
    go_loopw [22] (fun i wr => ∃ k : Nat, k ≤ A.length ∧ i = .int .i64 k ∧ Hid (∀ j, j < k → unF (nthS A j) (nthS B j) = none) ∧ Below w.heap.size w wr) (fun i _ => A.length - (intOf i).toNat)
    case atStart => exact ⟨0, Nat.zero_le _, rfl, (fun j hj => by omega), unhide B2⟩
    case round =>
      clear B2
      obtain ⟨k, hk, rfl, hall, hbel⟩ := hrel
      have BW := hide hbel
      clear hbel
      by_cases hlt : k < A.length
      · have i1 : (k : Int) < (A.length : Int) := by omega
        have HMK : Hid (k < max A.length B.length) := hide (by omega)
        go_wp2_with fail
        refine (rowAt_any _ _ _ k A _ ((unhide H1).below (unhide BW))).mono ?_
        rintro e w3 ⟨p1, n1, d1, rfl, r3, b3⟩
        have B3 := hide ((unhide BW).trans (b3.mono (unhide BW).size))
        have R3 := hide r3
        clear r3 b3
        go_wp2_with fail
        refine (rowAt_any _ _ _ k B _ ((unhide H2).below (unhide B3))).mono ?_
        rintro e w4 ⟨p2, n2, d2, rfl, r4, b4⟩
        have B4 := hide ((unhide B3).trans (b4.mono (unhide B3).size))
        have R3 := hide ((unhide R3).below b4)
        have R4 := hide r4
        clear r4 b4
        go_wp2_with fail
        refine (firstUnlike_any _ _ _ _ _ _ (nthS A k) (nthS B k) _ (unhide R3) (unhide R4)).mono ?_
        rintro e w5 ⟨rfl, b5⟩
        have B5 := hide ((unhide B4).trans (b5.mono (unhide B4).size))
        clear b5
        cases hu : unF (nthS A k) (nthS B k) with
        | none =>
          have HU := hide hu
          have eu : unR (nthS A k) (nthS B k) = -1 := by rw [unR, hu]
          rw [eu]
          clear hu eu
          go_wp2_with fail
          go_roundw
          case rel => exact ⟨k + 1, by omega, by go_num, (fun j hj => by rcases Nat.lt_succ_iff_lt_or_eq.1 hj with h | h; exact hall.out j h; subst h; exact unhide HU), unhide B5⟩
          case measure => simp [intOf]; omega
        | some m =>
          have HU := hide hu
          have eu : unR (nthS A k) (nthS B k) = (m : Int) := by rw [unR, hu]
          have em : ((m : Int) != -1) = true := by simp
          rw [eu]
          clear hu eu
          go_wp2_with fail
          refine bodyPost_ret (v := .tuple #[.int .i64 (k : Int), .int .i64 (m : Int), .bool false]) (by simp [results, Try.results25, go_sem]) rfl ?_
          have HD := hide (df_here (unhide HQ) (unhide HMK) (unhide HU) hall.out)
          rw [(unhide HD).1, (unhide HD).2.1, (unhide HD).2.2]
          exact ⟨rfl, unhide B5⟩
      · have i1 : ¬ (k : Int) < (A.length : Int) := by omega
        go_wp2_with fail
        refine bodyPost_ret (v := .tuple #[.int .i64 (-1), .int .i64 (-1), .bool true]) (by simp [results, Try.results25, go_sem]) rfl ?_
        have HD := hide (df_none (unhide HQ) (fun j hj => hall.out j (by omega)))
        rw [(unhide HD).1, (unhide HD).2.1, (unhide HD).2.2]
        exact ⟨rfl, unhide BW⟩

end Go.Proofs.Ythdnokilfmbgobd
