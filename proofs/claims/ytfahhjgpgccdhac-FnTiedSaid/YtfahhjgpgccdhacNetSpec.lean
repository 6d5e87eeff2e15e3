/-
  What the model's NetOk answers: as the plain function. At every net; nothing that was there is written.
-/
import Derived.Test.YtfahhjgpgccdhacSmall
import Derived.Test.YtfahhjgpgccdhacLists
namespace Go.Proofs.Ytfahhjgpgccdhac
open Go.RowKit

/-- A net's four fields in a block of its own. -/
abbrev Nb (w : World) (B : Nat) (n : Int) (a1 a2 a3 : Option Addr) (l1 c1 l2 c2 l3 c3 : Nat) : Prop := Blk w B [.int .i64 n, .slice a1 l1 c1, .slice a2 l2 c2, .slice a3 l3 c3]

set_option maxRecDepth 20000 in
set_option maxHeartbeats 4000000 in
theorem specNetOk_any (n : Int) (a1 a2 a3 : Option Addr) (l1 c1 l2 c2 l3 c3 : Nat) (ss : List Sr) (ts : List Ti) (us : List Us) (w : World) (r1 : RowE 3 srC w a1 l1 ss) (r2 : RowE 3 tiC w a2 l2 ts) (r3 : RowE 3 usC w a3 l3 us) :
    Calls Try.prog 35 #[.agg #[.int .i64 n, .slice a1 l1 c1, .slice a2 l2 c2, .slice a3 l3 c3]] w fun x w' => x = .returned (.bool (netB n ss ts us)) ∧ Below w.heap.size w w' := by
  have R1 := hide r1
  have R2 := hide r2
  have R3 := hide r3
  have Z1 := hide r1.len_eq
  have Z2 := hide r2.len_eq
  have Z3 := hide r3.len_eq
  have s1 := r1.small
  have s2 := r2.small
  have s3 := r3.small
  clear r1 r2 r3
  have B0 := hide (bel1 (w := w) (Obj.cells #[.int .i64 n, .slice a1 l1 c1, .slice a2 l2 c2, .slice a3 l3 c3] 44))
  have K0 := hide (Blk.new (w := w) [.int .i64 n, .slice a1 l1 c1, .slice a2 l2 c2, .slice a3 l3 c3] 44)
  cases h0 : inB n 1 8 with
  | false =>
    have HE := hide (netB_no (ss := ss) (ts := ts) (us := us) (.inl h0))
    go_enter Try.func35, Try.ntmps35
    go_wp2_with (go_at_call 36; refine (l1In_any _ _ _ _).mono ?_; rintro e w' ⟨rfl, hw⟩; subst w')
    go_ret
    exact ⟨ret_bool (unhide HE).symm, unhide B0⟩
  | true =>
    by_cases g1 : 6 < l1
    · have g' : (6 : Int) < (l1 : Int) := by omega
      have HE := hide (netB_no (n := n) (ss := ss) (ts := ts) (us := us) (.inr (.inl (ssB_long (by rw [unhide Z1]; exact g1)))))
      clear g1
      go_enter Try.func35, Try.ntmps35
      go_wp2_with (go_at_call 36; refine (l1In_any _ _ _ _).mono ?_; rintro e w' ⟨rfl, hw⟩; subst w')
      go_ret
      exact ⟨ret_bool (unhide HE).symm, unhide B0⟩
    have q1 : ¬ (6 : Int) < (l1 : Int) := by omega
    by_cases g2 : 16 < l2
    · have g' : (16 : Int) < (l2 : Int) := by omega
      have HE := hide (netB_no (n := n) (ss := ss) (ts := ts) (us := us) (.inr (.inr (.inl (tsB_long (by rw [unhide Z2]; exact g2))))))
      clear g2
      go_enter Try.func35, Try.ntmps35
      go_wp2_with (go_at_call 36; refine (l1In_any _ _ _ _).mono ?_; rintro e w' ⟨rfl, hw⟩; subst w')
      go_ret
      exact ⟨ret_bool (unhide HE).symm, unhide B0⟩
    have q2 : ¬ (16 : Int) < (l2 : Int) := by omega
    by_cases g3 : 40 < l3
    · have g' : (40 : Int) < (l3 : Int) := by omega
      have HE := hide (netB_no (n := n) (ss := ss) (ts := ts) (us := us) (.inr (.inr (.inr (unB_long (by rw [unhide Z3]; exact g3))))))
      clear g3
      go_enter Try.func35, Try.ntmps35
      go_wp2_with (go_at_call 36; refine (l1In_any _ _ _ _).mono ?_; rintro e w' ⟨rfl, hw⟩; subst w')
      go_ret
      exact ⟨ret_bool (unhide HE).symm, unhide B0⟩
    have q3 : ¬ (40 : Int) < (l3 : Int) := by omega
    have hn := in_facts h0
    have G1 : Hid (l1 ≤ 6) := hide (by omega)
    have G2 : Hid (l2 ≤ 16) := hide (by omega)
    have G3 : Hid (l3 ≤ 40) := hide (by omega)
    have H0 := hide h0
    clear g1 g2 g3
    obtain ⟨W, hW⟩ : ∃ W, W = w.alloc (Obj.cells #[.int .i64 n, .slice a1 l1 c1, .slice a2 l2 c2, .slice a3 l3 c3] 44) := ⟨_, rfl⟩
    go_enter Try.func35, Try.ntmps35
    go_wp2_with (go_at_call 36; refine (l1In_any _ _ _ _).mono ?_; rintro e w' ⟨rfl, hw⟩; subst w')
    rw [← hW] at B0 K0
    rw [← hW]
    have sB : w.heap.size ≤ W.heap.size := (unhide B0).size
    clear hW h0
    go_loopw [4] (fun i wr => ∃ k : Nat, i = .int .i64 (k : Int) ∧ k ≤ l1 ∧ Hid (∀ j, j < k → srB n (elAt ss j) = true) ∧ Below W.heap.size W wr) (fun i _ => l1 - (intOf i).toNat)
    case atStart => exact ⟨0, rfl, Nat.zero_le _, hide (fun j hj => by omega), Below.refl _ _⟩
    case round =>
      obtain ⟨k, rfl, hk, HJ, hb⟩ := hrel
      have kb := (unhide K0).below hb
      have m0 : wr.cell? ⟨w.heap.size, 0, none⟩ = some (.int .i64 n) := kb.c 0 (by simp)
      have m1 : wr.cell? ⟨w.heap.size, 1, none⟩ = some (.slice a1 l1 c1) := kb.c 1 (by simp)
      have m2 : wr.cell? ⟨w.heap.size, 2, none⟩ = some (.slice a2 l2 c2) := kb.c 2 (by simp)
      have m3 : wr.cell? ⟨w.heap.size, 3, none⟩ = some (.slice a3 l3 c3) := kb.c 3 (by simp)
      clear kb
      by_cases hlt : k < l1
      · have hlt' : (k : Int) < (l1 : Int) := by omega
        have hi0 : (0 : Int) ≤ (k : Int) := by omega
        have HLT := hide (show k < ss.length by rw [unhide Z1]; exact hlt)
        rcases (unhide R1).open_ with ⟨h0, _⟩ | ⟨bb, off, rfl, _, hc⟩
        · omega
        have e0 : wr.cell? ⟨bb, off + k * 3, none⟩ = some (.int .i64 (elAt ss k).a0) := by
          have c : w.cell? ⟨bb, off + k * 3, none⟩ = some (.int .i64 (elAt ss k).a0) := hc k hlt 0 (by omega)
          have c := ((unhide B0).cell (block_lt_of_cell c)).trans c
          exact (hb.cell (block_lt_of_cell c)).trans c
        have e1 : wr.cell? ⟨bb, off + k * 3 + 1, none⟩ = some (.int .i64 (elAt ss k).a1) := by
          have c : w.cell? ⟨bb, off + k * 3 + 1, none⟩ = some (.int .i64 (elAt ss k).a1) := hc k hlt 1 (by omega)
          have c := ((unhide B0).cell (block_lt_of_cell c)).trans c
          exact (hb.cell (block_lt_of_cell c)).trans c
        have e2 : wr.cell? ⟨bb, off + k * 3 + 2, none⟩ = some (.bool (elAt ss k).a2) := by
          have c : w.cell? ⟨bb, off + k * 3 + 2, none⟩ = some (.bool (elAt ss k).a2) := hc k hlt 2 (by omega)
          have c := ((unhide B0).cell (block_lt_of_cell c)).trans c
          exact (hb.cell (block_lt_of_cell c)).trans c
        have HB := hide hb
        have HBF : Hid (Below w.heap.size w wr) := hide ((unhide B0).trans (hb.mono sB))
        clear hc hb
        cases x0 : inB (elAt ss k).a0 0 (n - 1) with
        | false =>
          have HE := hide (netB_no (n := n) (ss := ss) (ts := ts) (us := us) (.inr (.inl (ssB_at (unhide HLT) (by simp [srB, *])))))
          go_wp2_with (go_at_call 36; refine (l1In_any _ _ _ _).mono ?_; rintro e w' ⟨rfl, hw⟩; subst w')
          go_ret
          exact ⟨ret_bool (unhide HE).symm, unhide HBF⟩
        | true =>
          cases x1 : inB (elAt ss k).a1 0 100000 with
          | false =>
            have HE := hide (netB_no (n := n) (ss := ss) (ts := ts) (us := us) (.inr (.inl (ssB_at (unhide HLT) (by simp [srB, *])))))
            go_wp2_with (go_at_call 36; refine (l1In_any _ _ _ _).mono ?_; rintro e w' ⟨rfl, hw⟩; subst w')
            go_ret
            exact ⟨ret_bool (unhide HE).symm, unhide HBF⟩
          | true =>
            have HJ1 : Hid (∀ j, j < k + 1 → srB n (elAt ss j) = true) := hide fun j hj => by
              rcases Nat.lt_succ_iff_lt_or_eq.1 hj with h | h
              · exact unhide HJ j h
              · subst h; simp [srB, *]
            go_wp2_with (go_at_call 36; refine (l1In_any _ _ _ _).mono ?_; rintro e w' ⟨rfl, hw⟩; subst w')
            go_roundw
            case rel => exact ⟨k + 1, by go_num, by omega, HJ1, unhide HB⟩
            case measure => simp [intOf]; omega
      · have hlt' : ¬ (k : Int) < (l1 : Int) := by omega
        have HB := hide hb
        have SB := hide (ssB_yes (n := n) (show ss.length ≤ 6 by rw [unhide Z1]; exact unhide G1) (fun i hi => unhide HJ i (by rw [unhide Z1] at hi; omega)))
        clear hb HJ
        go_wp2_with fail
        go_loopw [5] (fun i wr => ∃ k : Nat, i = .int .i64 (k : Int) ∧ k ≤ l2 ∧ Hid (∀ j, j < k → tiB n (elAt ts j) = true) ∧ Below W.heap.size W wr) (fun i _ => l2 - (intOf i).toNat)
        case atStart => exact ⟨0, rfl, Nat.zero_le _, hide (fun j hj => by omega), unhide HB⟩
        case round =>
          clear HB
          obtain ⟨k, rfl, hk, HJ, hb⟩ := hrel
          have kb := (unhide K0).below hb
          have m0 : wr.cell? ⟨w.heap.size, 0, none⟩ = some (.int .i64 n) := kb.c 0 (by simp)
          have m1 : wr.cell? ⟨w.heap.size, 1, none⟩ = some (.slice a1 l1 c1) := kb.c 1 (by simp)
          have m2 : wr.cell? ⟨w.heap.size, 2, none⟩ = some (.slice a2 l2 c2) := kb.c 2 (by simp)
          have m3 : wr.cell? ⟨w.heap.size, 3, none⟩ = some (.slice a3 l3 c3) := kb.c 3 (by simp)
          clear kb
          by_cases hlt : k < l2
          · have hlt' : (k : Int) < (l2 : Int) := by omega
            have hi0 : (0 : Int) ≤ (k : Int) := by omega
            have HLT := hide (show k < ts.length by rw [unhide Z2]; exact hlt)
            rcases (unhide R2).open_ with ⟨h0, _⟩ | ⟨bb, off, rfl, _, hc⟩
            · omega
            have e0 : wr.cell? ⟨bb, off + k * 3, none⟩ = some (.int .i64 (elAt ts k).a0) := by
              have c : w.cell? ⟨bb, off + k * 3, none⟩ = some (.int .i64 (elAt ts k).a0) := hc k hlt 0 (by omega)
              have c := ((unhide B0).cell (block_lt_of_cell c)).trans c
              exact (hb.cell (block_lt_of_cell c)).trans c
            have e1 : wr.cell? ⟨bb, off + k * 3 + 1, none⟩ = some (.int .i64 (elAt ts k).a1) := by
              have c : w.cell? ⟨bb, off + k * 3 + 1, none⟩ = some (.int .i64 (elAt ts k).a1) := hc k hlt 1 (by omega)
              have c := ((unhide B0).cell (block_lt_of_cell c)).trans c
              exact (hb.cell (block_lt_of_cell c)).trans c
            have e2 : wr.cell? ⟨bb, off + k * 3 + 2, none⟩ = some (.bool (elAt ts k).a2) := by
              have c : w.cell? ⟨bb, off + k * 3 + 2, none⟩ = some (.bool (elAt ts k).a2) := hc k hlt 2 (by omega)
              have c := ((unhide B0).cell (block_lt_of_cell c)).trans c
              exact (hb.cell (block_lt_of_cell c)).trans c
            have HB := hide hb
            have HBF : Hid (Below w.heap.size w wr) := hide ((unhide B0).trans (hb.mono sB))
            clear hc hb
            cases x0 : inB (elAt ts k).a0 0 (n - 1) with
            | false =>
              have HE := hide (netB_no (n := n) (ss := ss) (ts := ts) (us := us) (.inr (.inr (.inl (tsB_at (unhide HLT) (by simp [tiB, *]))))))
              go_wp2_with fail
              go_quiet ((go_at_call 36; exact Calls.quiet_of_same (l1In_is _ _ _ _ (by first | exact x0 | exact x1))))
              go_wp2
              go_ret
              exact ⟨ret_bool (unhide HE).symm, (unhide HBF).trans (bel0d' _)⟩
            | true =>
              cases x1 : inB (elAt ts k).a1 0 (n - 1) with
              | false =>
                have HE := hide (netB_no (n := n) (ss := ss) (ts := ts) (us := us) (.inr (.inr (.inl (tsB_at (unhide HLT) (by simp [tiB, *]))))))
                go_wp2_with fail
                go_quiet ((go_at_call 36; exact Calls.quiet_of_same (l1In_is _ _ _ _ (by first | exact x0 | exact x1))))
                go_wp2
                go_ret
                exact ⟨ret_bool (unhide HE).symm, (unhide HBF).trans (bel0d' _)⟩
              | true =>
                by_cases x2 : (elAt ts k).a0 = (elAt ts k).a1
                · have x3 : ((elAt ts k).a0 == (elAt ts k).a1) = true := by simpa using x2
                  have HE := hide (netB_no (n := n) (ss := ss) (ts := ts) (us := us) (.inr (.inr (.inl (tsB_at (unhide HLT) (by simp [tiB, *]))))))
                  go_wp2_with fail
                  go_quiet ((go_at_call 36; exact Calls.quiet_of_same (l1In_is _ _ _ _ (by first | exact x0 | exact x1))))
                  go_wp2
                  go_ret
                  exact ⟨ret_bool (unhide HE).symm, (unhide HBF).trans (bel0d' _)⟩
                · have x3 : ((elAt ts k).a0 == (elAt ts k).a1) = false := by simpa using x2
                  have HJ1 : Hid (∀ j, j < k + 1 → tiB n (elAt ts j) = true) := hide fun j hj => by
                    rcases Nat.lt_succ_iff_lt_or_eq.1 hj with h | h
                    · exact unhide HJ j h
                    · subst h; simp [tiB, *]
                  go_wp2_with fail
                  go_quiet ((go_at_call 36; exact Calls.quiet_of_same (l1In_is _ _ _ _ (by first | exact x0 | exact x1))))
                  go_wp2
                  go_roundw
                  case rel => exact ⟨k + 1, by go_num, by omega, HJ1, (unhide HB).trans (bel0d' _)⟩
                  case measure => simp [intOf]; omega
          · have hlt' : ¬ (k : Int) < (l2 : Int) := by omega
            have HB := hide hb
            have TB := hide (tsB_yes (n := n) (show ts.length ≤ 16 by rw [unhide Z2]; exact unhide G2) (fun i hi => unhide HJ i (by rw [unhide Z2] at hi; omega)))
            clear hb HJ
            go_wp2_with fail
            go_loopw [6] (fun i wr => ∃ k : Nat, i = .int .i64 (k : Int) ∧ k ≤ l3 ∧ Hid (∀ j, j < k → usB n (elAt us j) = true) ∧ Below W.heap.size W wr) (fun i _ => l3 - (intOf i).toNat)
            case atStart => exact ⟨0, rfl, Nat.zero_le _, hide (fun j hj => by omega), unhide HB⟩
            case round =>
              clear HB
              obtain ⟨k, rfl, hk, HJ, hb⟩ := hrel
              have kb := (unhide K0).below hb
              have m0 : wr.cell? ⟨w.heap.size, 0, none⟩ = some (.int .i64 n) := kb.c 0 (by simp)
              have m1 : wr.cell? ⟨w.heap.size, 1, none⟩ = some (.slice a1 l1 c1) := kb.c 1 (by simp)
              have m2 : wr.cell? ⟨w.heap.size, 2, none⟩ = some (.slice a2 l2 c2) := kb.c 2 (by simp)
              have m3 : wr.cell? ⟨w.heap.size, 3, none⟩ = some (.slice a3 l3 c3) := kb.c 3 (by simp)
              clear kb
              by_cases hlt : k < l3
              · have hlt' : (k : Int) < (l3 : Int) := by omega
                have hi0 : (0 : Int) ≤ (k : Int) := by omega
                have HLT := hide (show k < us.length by rw [unhide Z3]; exact hlt)
                rcases (unhide R3).open_ with ⟨h0, _⟩ | ⟨bb, off, rfl, _, hc⟩
                · omega
                have e0 : wr.cell? ⟨bb, off + k * 3, none⟩ = some (.int .i64 (elAt us k).a0) := by
                  have c : w.cell? ⟨bb, off + k * 3, none⟩ = some (.int .i64 (elAt us k).a0) := hc k hlt 0 (by omega)
                  have c := ((unhide B0).cell (block_lt_of_cell c)).trans c
                  exact (hb.cell (block_lt_of_cell c)).trans c
                have e1 : wr.cell? ⟨bb, off + k * 3 + 1, none⟩ = some (.int .i64 (elAt us k).a1) := by
                  have c : w.cell? ⟨bb, off + k * 3 + 1, none⟩ = some (.int .i64 (elAt us k).a1) := hc k hlt 1 (by omega)
                  have c := ((unhide B0).cell (block_lt_of_cell c)).trans c
                  exact (hb.cell (block_lt_of_cell c)).trans c
                have e2 : wr.cell? ⟨bb, off + k * 3 + 2, none⟩ = some (.int .i64 (elAt us k).a2) := by
                  have c : w.cell? ⟨bb, off + k * 3 + 2, none⟩ = some (.int .i64 (elAt us k).a2) := hc k hlt 2 (by omega)
                  have c := ((unhide B0).cell (block_lt_of_cell c)).trans c
                  exact (hb.cell (block_lt_of_cell c)).trans c
                have HB := hide hb
                have HBF : Hid (Below w.heap.size w wr) := hide ((unhide B0).trans (hb.mono sB))
                clear hc hb
                cases x0 : inB (elAt us k).a0 0 (n - 1) with
                | false =>
                  have HE := hide (netB_no (n := n) (ss := ss) (ts := ts) (us := us) (.inr (.inr (.inr (unB_at (unhide HLT) (by simp [usB, *]))))))
                  go_wp2_with (go_at_call 36; refine (l1In_any _ _ _ _).mono ?_; rintro e w' ⟨rfl, hw⟩; subst w')
                  go_ret
                  exact ⟨ret_bool (unhide HE).symm, unhide HBF⟩
                | true =>
                  cases x1 : inB (elAt us k).a1 1 100000 with
                  | false =>
                    have HE := hide (netB_no (n := n) (ss := ss) (ts := ts) (us := us) (.inr (.inr (.inr (unB_at (unhide HLT) (by simp [usB, *]))))))
                    go_wp2_with (go_at_call 36; refine (l1In_any _ _ _ _).mono ?_; rintro e w' ⟨rfl, hw⟩; subst w')
                    go_ret
                    exact ⟨ret_bool (unhide HE).symm, unhide HBF⟩
                  | true =>
                    cases x2 : inB (elAt us k).a2 0 9 with
                    | false =>
                      have HE := hide (netB_no (n := n) (ss := ss) (ts := ts) (us := us) (.inr (.inr (.inr (unB_at (unhide HLT) (by simp [usB, *]))))))
                      go_wp2_with (go_at_call 36; refine (l1In_any _ _ _ _).mono ?_; rintro e w' ⟨rfl, hw⟩; subst w')
                      go_ret
                      exact ⟨ret_bool (unhide HE).symm, unhide HBF⟩
                    | true =>
                      have HJ1 : Hid (∀ j, j < k + 1 → usB n (elAt us j) = true) := hide fun j hj => by
                        rcases Nat.lt_succ_iff_lt_or_eq.1 hj with h | h
                        · exact unhide HJ j h
                        · subst h; simp [usB, *]
                      go_wp2_with (go_at_call 36; refine (l1In_any _ _ _ _).mono ?_; rintro e w' ⟨rfl, hw⟩; subst w')
                      go_roundw
                      case rel => exact ⟨k + 1, by go_num, by omega, HJ1, unhide HB⟩
                      case measure => simp [intOf]; omega
              · have hlt' : ¬ (k : Int) < (l3 : Int) := by omega
                have HB := hide hb
                have UB := hide (unB_yes (n := n) (show us.length ≤ 40 by rw [unhide Z3]; exact unhide G3) (fun i hi => unhide HJ i (by rw [unhide Z3] at hi; omega)))
                clear hb HJ
                have HE := hide (netB_yes (unhide H0) (unhide SB) (unhide TB) (unhide UB))
                go_wp2_with fail
                go_ret
                exact ⟨ret_bool (unhide HE).symm, (unhide B0).trans ((unhide HB).mono sB)⟩
end Go.Proofs.Ytfahhjgpgccdhac
