/-
  What the program's NetOk answers: as the plain function. At every net; nothing that was there is written.
-/
import Derived.Test.YtfahhjgpgccdhacSmall
import Derived.Test.YtfahhjgpgccdhacLists
import Derived.Test.YtfahhjgpgccdhacBel
namespace Go.Proofs.Ytfahhjgpgccdhac
open Go.RowKit

set_option maxHeartbeats 1000000 in
theorem has_any (n : Int) (a1 a2 a3 : Option Addr) (l1 c1 l2 c2 l3 c3 : Nat) (b : Int) (w : World) (h1 : 1 ≤ n) (h2 : n ≤ 8) :
    Calls Try.prog 67 #[.agg #[.int .i64 n, .slice a1 l1 c1, .slice a2 l2 c2, .slice a3 l3 c3], .int .i64 b] w fun x w' => x = .returned (.bool (inB b 0 (n - 1))) ∧ Below w.heap.size w w' := by
  go_enter Try.func67, Try.ntmps67
  go_wp2_with (go_at_call 21; refine (within_any _ _ _ _).mono ?_; rintro e w' ⟨rfl, hw⟩; subst w')
  go_ret
  exact ⟨rfl, bel1 _⟩
theorem has_is {c : Bool} (n : Int) (a1 a2 a3 : Option Addr) (l1 c1 l2 c2 l3 c3 : Nat) (b : Int) (w : World) (h1 : 1 ≤ n) (h2 : n ≤ 8) (h : inB b 0 (n - 1) = c) :
    Calls Try.prog 67 #[.agg #[.int .i64 n, .slice a1 l1 c1, .slice a2 l2 c2, .slice a3 l3 c3], .int .i64 b] w fun x w' => x = .returned (.bool c) ∧ Below w.heap.size w w' := by
  subst h; exact has_any n a1 a2 a3 l1 c1 l2 c2 l3 c3 b w h1 h2
set_option maxHeartbeats 400000 in
theorem mostPower_lo (k : Int) (w : World) (h : k < 6) :
    Calls Try.prog 68 #[.int .i64 k] w fun e w' => e = .returned (.int .i64 100000) ∧ w' = w := by
  have h' : ¬ 6 ≤ k := by omega
  go_enter Try.func68, Try.ntmps68
  go_wp2
  go_ret
  exact ⟨rfl, rfl⟩
set_option maxHeartbeats 400000 in
theorem mostPower_hi (k : Int) (w : World) (h : 6 ≤ k) :
    Calls Try.prog 68 #[.int .i64 k] w fun e w' => e = .returned (.int .i64 (-2)) ∧ w' = w := by
  go_enter Try.func68, Try.ntmps68
  go_wp2
  go_ret
  exact ⟨rfl, rfl⟩

set_option maxRecDepth 20000 in
set_option maxHeartbeats 4000000 in
theorem sourcesOk_any (n : Int) (a1 a2 a3 : Option Addr) (l1 c1 l2 c2 l3 c3 : Nat) (ss : List Sr) (w : World) (hn1 : 1 ≤ n) (hn2 : n ≤ 8) (r : RowE 3 srC w a1 l1 ss) :
    Calls Try.prog 48 #[.agg #[.int .i64 n, .slice a1 l1 c1, .slice a2 l2 c2, .slice a3 l3 c3]] w fun x w' => x = .returned (.bool (ssB n ss)) ∧ Below w.heap.size w w' := by
  have R := hide r
  have Z := hide r.len_eq
  have s1 := r.small
  clear r
  have B0 := hide (bel1 (w := w) (Obj.cells #[.int .i64 n, .slice a1 l1 c1, .slice a2 l2 c2, .slice a3 l3 c3] 44))
  have K0 := hide (Blk.new (w := w) [.int .i64 n, .slice a1 l1 c1, .slice a2 l2 c2, .slice a3 l3 c3] 44)
  obtain ⟨W, hW⟩ : ∃ W, W = w.alloc (Obj.cells #[.int .i64 n, .slice a1 l1 c1, .slice a2 l2 c2, .slice a3 l3 c3] 44) := ⟨_, rfl⟩
  go_enter Try.func48, Try.ntmps48
  go_wp2_with fail
  rw [← hW] at B0 K0
  rw [← hW]
  have sB : w.heap.size ≤ W.heap.size := (unhide B0).size
  clear hW
  go_loopw [8] (fun i wr => ∃ k : Nat, i = .int .i64 (k : Int) ∧ k ≤ l1 ∧ Hid (k ≤ 6) ∧ Hid (∀ j, j < k → srB n (elAt ss j) = true) ∧ Below W.heap.size W wr) (fun i _ => l1 - (intOf i).toNat)
  case atStart => exact ⟨0, rfl, Nat.zero_le _, hide (Nat.zero_le _), hide (fun j hj => by omega), Below.refl _ _⟩
  case round =>
    obtain ⟨k, rfl, hk, H6, HJ, hb⟩ := hrel
    by_cases hlt : k < l1
    · have hlt' : (k : Int) < (l1 : Int) := by omega
      have hi0 : (0 : Int) ≤ (k : Int) := by omega
      have HLT := hide (show k < ss.length by rw [unhide Z]; exact hlt)
      rcases (unhide R).open_ with ⟨h0, _⟩ | ⟨bb, off, rfl, _, hc⟩
      · omega
      have e0 : wr.cell? ⟨bb, off + k * 3, none⟩ = some (.int .i64 (elAt ss k).a0) := by
        have c : w.cell? ⟨bb, off + k * 3, none⟩ = some (.int .i64 (elAt ss k).a0) := hc k hlt 0 (by omega)
        have c := ((unhide B0).cell (block_lt_of_cell c)).trans c
        exact (hb.cell (block_lt_of_cell c)).trans c
      have e1 : wr.cell? ⟨bb, off + k * 3 + 1, none⟩ = some (.int .i64 (elAt ss k).a1) := by
        have c : w.cell? ⟨bb, off + k * 3 + 1, none⟩ = some (.int .i64 (elAt ss k).a1) := hc k hlt 1 (by omega)
        have c := ((unhide B0).cell (block_lt_of_cell c)).trans c
        exact (hb.cell (block_lt_of_cell c)).trans c
      have e2 : wr.cell? ⟨bb, off + k * 3 + 2, none⟩ = some (.bool (elAt ss k).a2) := by
        have c : w.cell? ⟨bb, off + k * 3 + 2, none⟩ = some (.bool (elAt ss k).a2) := hc k hlt 2 (by omega)
        have c := ((unhide B0).cell (block_lt_of_cell c)).trans c
        exact (hb.cell (block_lt_of_cell c)).trans c
      obtain ⟨V, hV⟩ : ∃ V, V = wr.alloc (Obj.cells #[.int .i64 (elAt ss k).a0, .int .i64 (elAt ss k).a1, .bool (elAt ss k).a2] 95) := ⟨_, rfl⟩
      have bV : Below W.heap.size W V := by rw [hV]; exact hb.trans ((bel1 (w := wr) _).mono hb.size)
      have KE : Blk V wr.heap.size [.int .i64 (elAt ss k).a0, .int .i64 (elAt ss k).a1, .bool (elAt ss k).a2] := by rw [hV]; exact Blk.new _ _
      have KN := (unhide K0).below bV
      have HV := hide hV
      obtain ⟨E, hE⟩ : ∃ E, wr.heap.size = E := ⟨_, rfl⟩
      have HEE := hide hE
      rw [hE] at KE
      obtain ⟨ι, f, _, hbf, hall⟩ := belClass V
      have m0 : ∀ x, (f x).cell? ⟨w.heap.size, 0, none⟩ = some (.int .i64 n) := fun x => (KN.below (hbf x)).c 0 (by simp)
      have m1 : ∀ x, (f x).cell? ⟨w.heap.size, 1, none⟩ = some (.slice _ l1 c1) := fun x => (KN.below (hbf x)).c 1 (by simp)
      have m2 : ∀ x, (f x).cell? ⟨w.heap.size, 2, none⟩ = some (.slice _ l2 c2) := fun x => (KN.below (hbf x)).c 2 (by simp)
      have m3 : ∀ x, (f x).cell? ⟨w.heap.size, 3, none⟩ = some (.slice _ l3 c3) := fun x => (KN.below (hbf x)).c 3 (by simp)
      have y0 : ∀ x, (f x).cell? ⟨E, 0, none⟩ = some (.int .i64 (elAt ss k).a0) := fun x => (KE.below (hbf x)).c 0 (by simp)
      have y1 : ∀ x, (f x).cell? ⟨E, 1, none⟩ = some (.int .i64 (elAt ss k).a1) := fun x => (KE.below (hbf x)).c 1 (by simp)
      have y2 : ∀ x, (f x).cell? ⟨E, 2, none⟩ = some (.bool (elAt ss k).a2) := fun x => (KE.below (hbf x)).c 2 (by simp)
      have HB := hide (fun x => bV.trans ((hbf x).mono bV.size))
      have HF := hide hbf
      have HA := hide hall
      clear hbf hall KN KE hc hb hV bV hE
      cases x0 : inB (elAt ss k).a0 0 (n - 1) with
      | false =>
        have HFF := hide (ssB_at (n := n) (unhide HLT) (by simp [srB, *]))
        go_wp2_with fail
        rw [← unhide HV, unhide HEE]
        refine wp_region_bel (unhide HA) (by kernel_rfl) (by kernel_rfl) ?_
        repeat (go_big_quiet_step (first
            | (go_at_call 67; exact belQ (unhide HF) (unhide HA) (has_is _ _ _ _ _ _ _ _ _ _ _ _ hn1 hn2 x0))))
        refine wpQuiet_nil ?_
        rintro _ ⟨x3, rfl⟩
        go_wp2_with fail
        go_ret
        exact ⟨ret_bool (unhide HFF).symm, (unhide B0).trans ((unhide HB x3).mono sB)⟩
      | true =>
      by_cases h6 : k < 6
      · have hk6 : (k : Int) < 6 := by omega
        cases x1 : inB (elAt ss k).a1 0 100000 with
        | false =>
          have HFF := hide (ssB_at (n := n) (unhide HLT) (by simp [srB, *]))
          go_wp2_with fail
          rw [← unhide HV, unhide HEE]
          refine wp_region_bel (unhide HA) (by kernel_rfl) (by kernel_rfl) ?_
          repeat (go_big_quiet_step (first
              | (go_at_call 67; exact belQ (unhide HF) (unhide HA) (has_is _ _ _ _ _ _ _ _ _ _ _ _ hn1 hn2 x0))
              | (go_at_call 68; exact belS (mostPower_lo _ _ hk6))
              | (go_at_call 21; exact belS (within_is _ _ _ _ x1))))
          refine wpQuiet_nil ?_
          rintro _ ⟨x3, rfl⟩
          go_wp2_with fail
          go_ret
          exact ⟨ret_bool (unhide HFF).symm, (unhide B0).trans ((unhide HB x3).mono sB)⟩
        | true =>
          have HJ1 : Hid (∀ j, j < k + 1 → srB n (elAt ss j) = true) := hide fun j hj => by
            rcases Nat.lt_succ_iff_lt_or_eq.1 hj with h | h
            · exact unhide HJ j h
            · subst h; simp [srB, *]
          go_wp2_with fail
          rw [← unhide HV, unhide HEE]
          refine wp_region_bel (unhide HA) (by kernel_rfl) (by kernel_rfl) ?_
          repeat (go_big_quiet_step (first
              | (go_at_call 67; exact belQ (unhide HF) (unhide HA) (has_is _ _ _ _ _ _ _ _ _ _ _ _ hn1 hn2 x0))
              | (go_at_call 68; exact belS (mostPower_lo _ _ hk6))
              | (go_at_call 21; exact belS (within_is _ _ _ _ x1))))
          refine wpQuiet_nil ?_
          rintro _ ⟨x3, rfl⟩
          go_wp2_with fail
          go_roundw
          case rel => exact ⟨k + 1, by go_num, by omega, hide (by omega), HJ1, unhide HB x3⟩
          case measure => simp [intOf]; omega
      · have hk6 : 6 ≤ (k : Int) := by omega
        have x1 : inB (elAt ss k).a1 0 (-2) = false := by simp [inB]; omega
        have HFF := hide (ssB_long (n := n) (show 6 < ss.length by have := unhide HLT; omega))
        go_wp2_with fail
        rw [← unhide HV, unhide HEE]
        refine wp_region_bel (unhide HA) (by kernel_rfl) (by kernel_rfl) ?_
        repeat (go_big_quiet_step (first
            | (go_at_call 67; exact belQ (unhide HF) (unhide HA) (has_is _ _ _ _ _ _ _ _ _ _ _ _ hn1 hn2 x0))
            | (go_at_call 68; exact belS (mostPower_hi _ _ hk6))
            | (go_at_call 21; exact belS (within_is _ _ _ _ x1))))
        refine wpQuiet_nil ?_
        rintro _ ⟨x3, rfl⟩
        go_wp2_with fail
        go_ret
        exact ⟨ret_bool (unhide HFF).symm, (unhide B0).trans ((unhide HB x3).mono sB)⟩
    · have hlt' : ¬ (k : Int) < (l1 : Int) := by omega
      have HE := hide (ssB_yes (n := n) (show ss.length ≤ 6 by have h6 := unhide H6; rw [unhide Z]; omega) (fun i hi => unhide HJ i (by rw [unhide Z] at hi; omega)))
      have HB := hide hb
      clear hb
      go_wp2_with fail
      go_ret
      exact ⟨ret_bool (unhide HE).symm, (unhide B0).trans ((unhide HB).mono sB)⟩
theorem sourcesOk_is {c : Bool} (n : Int) (a1 a2 a3 : Option Addr) (l1 c1 l2 c2 l3 c3 : Nat) (ss : List Sr) (w : World) (hn1 : 1 ≤ n) (hn2 : n ≤ 8) (r : RowE 3 srC w a1 l1 ss) (h : ssB n ss = c) :
    Calls Try.prog 48 #[.agg #[.int .i64 n, .slice a1 l1 c1, .slice a2 l2 c2, .slice a3 l3 c3]] w fun x w' => x = .returned (.bool c) ∧ Below w.heap.size w w' := by
  subst h; exact sourcesOk_any n a1 a2 a3 l1 c1 l2 c2 l3 c3 ss w hn1 hn2 r
set_option maxRecDepth 20000 in
set_option maxHeartbeats 4000000 in
theorem tiesOk_any (n : Int) (a1 a2 a3 : Option Addr) (l1 c1 l2 c2 l3 c3 : Nat) (ts : List Ti) (w : World) (hn1 : 1 ≤ n) (hn2 : n ≤ 8) (r : RowE 3 tiC w a2 l2 ts) :
    Calls Try.prog 49 #[.agg #[.int .i64 n, .slice a1 l1 c1, .slice a2 l2 c2, .slice a3 l3 c3]] w fun x w' => x = .returned (.bool (tsB n ts)) ∧ Below w.heap.size w w' := by
  have R := hide r
  have Z := hide r.len_eq
  have s1 := r.small
  clear r
  have B0 := hide (bel1 (w := w) (Obj.cells #[.int .i64 n, .slice a1 l1 c1, .slice a2 l2 c2, .slice a3 l3 c3] 44))
  have K0 := hide (Blk.new (w := w) [.int .i64 n, .slice a1 l1 c1, .slice a2 l2 c2, .slice a3 l3 c3] 44)
  by_cases g : 16 < l2
  · have g' : (16 : Int) < (l2 : Int) := by omega
    have HE := hide (tsB_long (n := n) (show 16 < ts.length by rw [unhide Z]; exact g))
    clear g
    go_enter Try.func49, Try.ntmps49
    go_wp2_with fail
    go_ret
    exact ⟨ret_bool (unhide HE).symm, unhide B0⟩
  have q : ¬ (16 : Int) < (l2 : Int) := by omega
  have G : Hid (l2 ≤ 16) := hide (by omega)
  obtain ⟨W, hW⟩ : ∃ W, W = w.alloc (Obj.cells #[.int .i64 n, .slice a1 l1 c1, .slice a2 l2 c2, .slice a3 l3 c3] 44) := ⟨_, rfl⟩
  clear g
  go_enter Try.func49, Try.ntmps49
  go_wp2_with fail
  rw [← hW] at B0 K0
  rw [← hW]
  have sB : w.heap.size ≤ W.heap.size := (unhide B0).size
  clear hW
  go_loopw [12] (fun i wr => ∃ k : Nat, i = .int .i64 (k : Int) ∧ k ≤ l2 ∧ Hid (∀ j, j < k → tiB n (elAt ts j) = true) ∧ Below W.heap.size W wr) (fun i _ => l2 - (intOf i).toNat)
  case atStart => exact ⟨0, rfl, Nat.zero_le _, hide (fun j hj => by omega), Below.refl _ _⟩
  case round =>
    obtain ⟨k, rfl, hk, HJ, hb⟩ := hrel
    by_cases hlt : k < l2
    · have hlt' : (k : Int) < (l2 : Int) := by omega
      have hi0 : (0 : Int) ≤ (k : Int) := by omega
      have HLT := hide (show k < ts.length by rw [unhide Z]; exact hlt)
      rcases (unhide R).open_ with ⟨h0, _⟩ | ⟨bb, off, rfl, _, hc⟩
      · omega
      have e0 : wr.cell? ⟨bb, off + k * 3, none⟩ = some (.int .i64 (elAt ts k).a0) := by
        have c : w.cell? ⟨bb, off + k * 3, none⟩ = some (.int .i64 (elAt ts k).a0) := hc k hlt 0 (by omega)
        have c := ((unhide B0).cell (block_lt_of_cell c)).trans c
        exact (hb.cell (block_lt_of_cell c)).trans c
      have e1 : wr.cell? ⟨bb, off + k * 3 + 1, none⟩ = some (.int .i64 (elAt ts k).a1) := by
        have c : w.cell? ⟨bb, off + k * 3 + 1, none⟩ = some (.int .i64 (elAt ts k).a1) := hc k hlt 1 (by omega)
        have c := ((unhide B0).cell (block_lt_of_cell c)).trans c
        exact (hb.cell (block_lt_of_cell c)).trans c
      have e2 : wr.cell? ⟨bb, off + k * 3 + 2, none⟩ = some (.bool (elAt ts k).a2) := by
        have c : w.cell? ⟨bb, off + k * 3 + 2, none⟩ = some (.bool (elAt ts k).a2) := hc k hlt 2 (by omega)
        have c := ((unhide B0).cell (block_lt_of_cell c)).trans c
        exact (hb.cell (block_lt_of_cell c)).trans c
      obtain ⟨V, hV⟩ : ∃ V, V = wr.alloc (Obj.cells #[.int .i64 (elAt ts k).a0, .int .i64 (elAt ts k).a1, .bool (elAt ts k).a2] 51) := ⟨_, rfl⟩
      have bV : Below W.heap.size W V := by rw [hV]; exact hb.trans ((bel1 (w := wr) _).mono hb.size)
      have KE : Hid (Blk V wr.heap.size [.int .i64 (elAt ts k).a0, .int .i64 (elAt ts k).a1, .bool (elAt ts k).a2]) := hide (by rw [hV]; exact Blk.new _ _)
      have KN := hide ((unhide K0).below bV)
      have HB := hide bV
      have m0 : V.cell? ⟨w.heap.size, 0, none⟩ = some (.int .i64 n) := (unhide KN).c 0 (by simp)
      have m1 : V.cell? ⟨w.heap.size, 1, none⟩ = some (.slice _ l1 c1) := (unhide KN).c 1 (by simp)
      have m2 : V.cell? ⟨w.heap.size, 2, none⟩ = some (.slice _ l2 c2) := (unhide KN).c 2 (by simp)
      have m3 : V.cell? ⟨w.heap.size, 3, none⟩ = some (.slice _ l3 c3) := (unhide KN).c 3 (by simp)
      rw [hV] at m0 m1 m2 m3
      have HV := hide hV
      obtain ⟨E, hE⟩ : ∃ E, wr.heap.size = E := ⟨_, rfl⟩
      have HEE := hide hE
      rw [hE] at KE
      clear hc hb hV bV hE
      cases x0 : inB (elAt ts k).a0 0 (n - 1) with
      | false =>
        have HF := hide (tsB_at (n := n) (unhide HLT) (by simp [tiB, *]))
        go_wp2_with fail
        rw [← unhide HV, unhide HEE]
        clear HV m0 m1 m2 m3 e0 e1 e2
        refine (has_is _ _ _ _ _ _ _ _ _ _ _ _ hn1 hn2 x0).mono ?_
        rintro x v1 ⟨rfl, bv⟩
        have KE := hide ((unhide KE).below bv)
        have KN := hide ((unhide KN).below bv)
        have HB := hide ((unhide HB).trans (bv.mono (unhide HB).size))
        clear bv HEE
        have y0 : v1.cell? ⟨E, 0, none⟩ = some (.int .i64 (elAt ts k).a0) := (unhide KE).c 0 (by simp)
        have y1 : v1.cell? ⟨E, 1, none⟩ = some (.int .i64 (elAt ts k).a1) := (unhide KE).c 1 (by simp)
        have y2 : v1.cell? ⟨E, 2, none⟩ = some (.bool (elAt ts k).a2) := (unhide KE).c 2 (by simp)
        have m0 : v1.cell? ⟨w.heap.size, 0, none⟩ = some (.int .i64 n) := (unhide KN).c 0 (by simp)
        have m1 : v1.cell? ⟨w.heap.size, 1, none⟩ = some (.slice _ l1 c1) := (unhide KN).c 1 (by simp)
        have m2 : v1.cell? ⟨w.heap.size, 2, none⟩ = some (.slice _ l2 c2) := (unhide KN).c 2 (by simp)
        have m3 : v1.cell? ⟨w.heap.size, 3, none⟩ = some (.slice _ l3 c3) := (unhide KN).c 3 (by simp)
        go_wp2_with (go_at_call 21; refine (within_any _ _ _ _).mono ?_; rintro e w' ⟨rfl, hw⟩; subst w')
        go_ret
        exact ⟨ret_bool (unhide HF).symm, (unhide B0).trans ((unhide HB).mono sB)⟩
      | true =>
        cases x1 : inB (elAt ts k).a1 0 (n - 1) with
        | false =>
          have HF := hide (tsB_at (n := n) (unhide HLT) (by simp [tiB, *]))
          go_wp2_with fail
          rw [← unhide HV, unhide HEE]
          clear HV m0 m1 m2 m3 e0 e1 e2
          refine (has_is _ _ _ _ _ _ _ _ _ _ _ _ hn1 hn2 x0).mono ?_
          rintro x v1 ⟨rfl, bv⟩
          have KE := hide ((unhide KE).below bv)
          have KN := hide ((unhide KN).below bv)
          have HB := hide ((unhide HB).trans (bv.mono (unhide HB).size))
          clear bv HEE
          have y0 : v1.cell? ⟨E, 0, none⟩ = some (.int .i64 (elAt ts k).a0) := (unhide KE).c 0 (by simp)
          have y1 : v1.cell? ⟨E, 1, none⟩ = some (.int .i64 (elAt ts k).a1) := (unhide KE).c 1 (by simp)
          have y2 : v1.cell? ⟨E, 2, none⟩ = some (.bool (elAt ts k).a2) := (unhide KE).c 2 (by simp)
          have m0 : v1.cell? ⟨w.heap.size, 0, none⟩ = some (.int .i64 n) := (unhide KN).c 0 (by simp)
          have m1 : v1.cell? ⟨w.heap.size, 1, none⟩ = some (.slice _ l1 c1) := (unhide KN).c 1 (by simp)
          have m2 : v1.cell? ⟨w.heap.size, 2, none⟩ = some (.slice _ l2 c2) := (unhide KN).c 2 (by simp)
          have m3 : v1.cell? ⟨w.heap.size, 3, none⟩ = some (.slice _ l3 c3) := (unhide KN).c 3 (by simp)
          go_wp2_with fail
          clear m0 m1 m2 m3 y0 y1 y2
          refine (has_is _ _ _ _ _ _ _ _ _ _ _ _ hn1 hn2 x1).mono ?_
          rintro x v2 ⟨rfl, bv⟩
          have KE := hide ((unhide KE).below bv)
          have HB := hide ((unhide HB).trans (bv.mono (unhide HB).size))
          clear bv
          have y0 : v2.cell? ⟨E, 0, none⟩ = some (.int .i64 (elAt ts k).a0) := (unhide KE).c 0 (by simp)
          have y1 : v2.cell? ⟨E, 1, none⟩ = some (.int .i64 (elAt ts k).a1) := (unhide KE).c 1 (by simp)
          have y2 : v2.cell? ⟨E, 2, none⟩ = some (.bool (elAt ts k).a2) := (unhide KE).c 2 (by simp)
          go_wp2_with (go_at_call 21; refine (within_any _ _ _ _).mono ?_; rintro e w' ⟨rfl, hw⟩; subst w')
          go_ret
          exact ⟨ret_bool (unhide HF).symm, (unhide B0).trans ((unhide HB).mono sB)⟩
        | true =>
          by_cases x2 : (elAt ts k).a0 = (elAt ts k).a1
          · have HF := hide (tsB_at (n := n) (unhide HLT) (by simp [tiB, *]))
            have HX := hide x2
            clear x2
            go_wp2_with fail
            rw [← unhide HV, unhide HEE]
            clear HV m0 m1 m2 m3 e0 e1 e2
            refine (has_is _ _ _ _ _ _ _ _ _ _ _ _ hn1 hn2 x0).mono ?_
            rintro x v1 ⟨rfl, bv⟩
            have KE := hide ((unhide KE).below bv)
            have KN := hide ((unhide KN).below bv)
            have HB := hide ((unhide HB).trans (bv.mono (unhide HB).size))
            clear bv HEE
            have y0 : v1.cell? ⟨E, 0, none⟩ = some (.int .i64 (elAt ts k).a0) := (unhide KE).c 0 (by simp)
            have y1 : v1.cell? ⟨E, 1, none⟩ = some (.int .i64 (elAt ts k).a1) := (unhide KE).c 1 (by simp)
            have y2 : v1.cell? ⟨E, 2, none⟩ = some (.bool (elAt ts k).a2) := (unhide KE).c 2 (by simp)
            have m0 : v1.cell? ⟨w.heap.size, 0, none⟩ = some (.int .i64 n) := (unhide KN).c 0 (by simp)
            have m1 : v1.cell? ⟨w.heap.size, 1, none⟩ = some (.slice _ l1 c1) := (unhide KN).c 1 (by simp)
            have m2 : v1.cell? ⟨w.heap.size, 2, none⟩ = some (.slice _ l2 c2) := (unhide KN).c 2 (by simp)
            have m3 : v1.cell? ⟨w.heap.size, 3, none⟩ = some (.slice _ l3 c3) := (unhide KN).c 3 (by simp)
            go_wp2_with fail
            clear m0 m1 m2 m3 y0 y1 y2
            refine (has_is _ _ _ _ _ _ _ _ _ _ _ _ hn1 hn2 x1).mono ?_
            rintro x v2 ⟨rfl, bv⟩
            have KE := hide ((unhide KE).below bv)
            have HB := hide ((unhide HB).trans (bv.mono (unhide HB).size))
            clear bv
            have y0 : v2.cell? ⟨E, 0, none⟩ = some (.int .i64 (elAt ts k).a0) := (unhide KE).c 0 (by simp)
            have y1 : v2.cell? ⟨E, 1, none⟩ = some (.int .i64 (elAt ts k).a1) := (unhide KE).c 1 (by simp)
            have y2 : v2.cell? ⟨E, 2, none⟩ = some (.bool (elAt ts k).a2) := (unhide KE).c 2 (by simp)
            rw [← unhide HX] at y1
            go_wp2_with (go_at_call 21; refine (within_any _ _ _ _).mono ?_; rintro e w' ⟨rfl, hw⟩; subst w')
            go_ret
            exact ⟨ret_bool (unhide HF).symm, (unhide B0).trans ((unhide HB).mono sB)⟩
          · have x3 : ((elAt ts k).a0 == (elAt ts k).a1) = false := by simpa using x2
            have HJ1 : Hid (∀ j, j < k + 1 → tiB n (elAt ts j) = true) := hide fun j hj => by
              rcases Nat.lt_succ_iff_lt_or_eq.1 hj with h | h
              · exact unhide HJ j h
              · subst h; simp [tiB, *]
            go_wp2_with fail
            rw [← unhide HV, unhide HEE]
            clear HV m0 m1 m2 m3 e0 e1 e2
            refine (has_is _ _ _ _ _ _ _ _ _ _ _ _ hn1 hn2 x0).mono ?_
            rintro x v1 ⟨rfl, bv⟩
            have KE := hide ((unhide KE).below bv)
            have KN := hide ((unhide KN).below bv)
            have HB := hide ((unhide HB).trans (bv.mono (unhide HB).size))
            clear bv HEE
            have y0 : v1.cell? ⟨E, 0, none⟩ = some (.int .i64 (elAt ts k).a0) := (unhide KE).c 0 (by simp)
            have y1 : v1.cell? ⟨E, 1, none⟩ = some (.int .i64 (elAt ts k).a1) := (unhide KE).c 1 (by simp)
            have y2 : v1.cell? ⟨E, 2, none⟩ = some (.bool (elAt ts k).a2) := (unhide KE).c 2 (by simp)
            have m0 : v1.cell? ⟨w.heap.size, 0, none⟩ = some (.int .i64 n) := (unhide KN).c 0 (by simp)
            have m1 : v1.cell? ⟨w.heap.size, 1, none⟩ = some (.slice _ l1 c1) := (unhide KN).c 1 (by simp)
            have m2 : v1.cell? ⟨w.heap.size, 2, none⟩ = some (.slice _ l2 c2) := (unhide KN).c 2 (by simp)
            have m3 : v1.cell? ⟨w.heap.size, 3, none⟩ = some (.slice _ l3 c3) := (unhide KN).c 3 (by simp)
            go_wp2_with fail
            clear m0 m1 m2 m3 y0 y1 y2
            refine (has_is _ _ _ _ _ _ _ _ _ _ _ _ hn1 hn2 x1).mono ?_
            rintro x v2 ⟨rfl, bv⟩
            have KE := hide ((unhide KE).below bv)
            have HB := hide ((unhide HB).trans (bv.mono (unhide HB).size))
            clear bv
            have y0 : v2.cell? ⟨E, 0, none⟩ = some (.int .i64 (elAt ts k).a0) := (unhide KE).c 0 (by simp)
            have y1 : v2.cell? ⟨E, 1, none⟩ = some (.int .i64 (elAt ts k).a1) := (unhide KE).c 1 (by simp)
            have y2 : v2.cell? ⟨E, 2, none⟩ = some (.bool (elAt ts k).a2) := (unhide KE).c 2 (by simp)
            go_wp2_with (go_at_call 21; refine (within_any _ _ _ _).mono ?_; rintro e w' ⟨rfl, hw⟩; subst w')
            go_roundw
            case rel => exact ⟨k + 1, by go_num, by omega, HJ1, unhide HB⟩
            case measure => simp [intOf]; omega
    · have hlt' : ¬ (k : Int) < (l2 : Int) := by omega
      have HE := hide (tsB_yes (n := n) (show ts.length ≤ 16 by rw [unhide Z]; exact unhide G) (fun i hi => unhide HJ i (by rw [unhide Z] at hi; omega)))
      have HB := hide hb
      clear hb
      go_wp2_with fail
      go_ret
      exact ⟨ret_bool (unhide HE).symm, (unhide B0).trans ((unhide HB).mono sB)⟩
theorem tiesOk_is {c : Bool} (n : Int) (a1 a2 a3 : Option Addr) (l1 c1 l2 c2 l3 c3 : Nat) (ts : List Ti) (w : World) (hn1 : 1 ≤ n) (hn2 : n ≤ 8) (r : RowE 3 tiC w a2 l2 ts) (h : tsB n ts = c) :
    Calls Try.prog 49 #[.agg #[.int .i64 n, .slice a1 l1 c1, .slice a2 l2 c2, .slice a3 l3 c3]] w fun x w' => x = .returned (.bool c) ∧ Below w.heap.size w w' := by
  subst h; exact tiesOk_any n a1 a2 a3 l1 c1 l2 c2 l3 c3 ts w hn1 hn2 r
set_option maxRecDepth 20000 in
set_option maxHeartbeats 4000000 in
theorem usesOk_any (n : Int) (a1 a2 a3 : Option Addr) (l1 c1 l2 c2 l3 c3 : Nat) (us : List Us) (w : World) (hn1 : 1 ≤ n) (hn2 : n ≤ 8) (r : RowE 3 usC w a3 l3 us) :
    Calls Try.prog 50 #[.agg #[.int .i64 n, .slice a1 l1 c1, .slice a2 l2 c2, .slice a3 l3 c3]] w fun x w' => x = .returned (.bool (unB n us)) ∧ Below w.heap.size w w' := by
  have R := hide r
  have Z := hide r.len_eq
  have s1 := r.small
  clear r
  have B0 := hide (bel1 (w := w) (Obj.cells #[.int .i64 n, .slice a1 l1 c1, .slice a2 l2 c2, .slice a3 l3 c3] 44))
  have K0 := hide (Blk.new (w := w) [.int .i64 n, .slice a1 l1 c1, .slice a2 l2 c2, .slice a3 l3 c3] 44)
  by_cases g : 40 < l3
  · have g' : (40 : Int) < (l3 : Int) := by omega
    have HE := hide (unB_long (n := n) (show 40 < us.length by rw [unhide Z]; exact g))
    clear g
    go_enter Try.func50, Try.ntmps50
    go_wp2_with fail
    go_ret
    exact ⟨ret_bool (unhide HE).symm, unhide B0⟩
  have q : ¬ (40 : Int) < (l3 : Int) := by omega
  have G : Hid (l3 ≤ 40) := hide (by omega)
  obtain ⟨W, hW⟩ : ∃ W, W = w.alloc (Obj.cells #[.int .i64 n, .slice a1 l1 c1, .slice a2 l2 c2, .slice a3 l3 c3] 44) := ⟨_, rfl⟩
  clear g
  go_enter Try.func50, Try.ntmps50
  go_wp2_with fail
  rw [← hW] at B0 K0
  rw [← hW]
  have sB : w.heap.size ≤ W.heap.size := (unhide B0).size
  clear hW
  go_loopw [12] (fun i wr => ∃ k : Nat, i = .int .i64 (k : Int) ∧ k ≤ l3 ∧ Hid (∀ j, j < k → usB n (elAt us j) = true) ∧ Below W.heap.size W wr) (fun i _ => l3 - (intOf i).toNat)
  case atStart => exact ⟨0, rfl, Nat.zero_le _, hide (fun j hj => by omega), Below.refl _ _⟩
  case round =>
    obtain ⟨k, rfl, hk, HJ, hb⟩ := hrel
    by_cases hlt : k < l3
    · have hlt' : (k : Int) < (l3 : Int) := by omega
      have hi0 : (0 : Int) ≤ (k : Int) := by omega
      have HLT := hide (show k < us.length by rw [unhide Z]; exact hlt)
      rcases (unhide R).open_ with ⟨h0, _⟩ | ⟨bb, off, rfl, _, hc⟩
      · omega
      have e0 : wr.cell? ⟨bb, off + k * 3, none⟩ = some (.int .i64 (elAt us k).a0) := by
        have c : w.cell? ⟨bb, off + k * 3, none⟩ = some (.int .i64 (elAt us k).a0) := hc k hlt 0 (by omega)
        have c := ((unhide B0).cell (block_lt_of_cell c)).trans c
        exact (hb.cell (block_lt_of_cell c)).trans c
      have e1 : wr.cell? ⟨bb, off + k * 3 + 1, none⟩ = some (.int .i64 (elAt us k).a1) := by
        have c : w.cell? ⟨bb, off + k * 3 + 1, none⟩ = some (.int .i64 (elAt us k).a1) := hc k hlt 1 (by omega)
        have c := ((unhide B0).cell (block_lt_of_cell c)).trans c
        exact (hb.cell (block_lt_of_cell c)).trans c
      have e2 : wr.cell? ⟨bb, off + k * 3 + 2, none⟩ = some (.int .i64 (elAt us k).a2) := by
        have c : w.cell? ⟨bb, off + k * 3 + 2, none⟩ = some (.int .i64 (elAt us k).a2) := hc k hlt 2 (by omega)
        have c := ((unhide B0).cell (block_lt_of_cell c)).trans c
        exact (hb.cell (block_lt_of_cell c)).trans c
      obtain ⟨V, hV⟩ : ∃ V, V = wr.alloc (Obj.cells #[.int .i64 (elAt us k).a0, .int .i64 (elAt us k).a1, .int .i64 (elAt us k).a2] 83) := ⟨_, rfl⟩
      have bV : Below W.heap.size W V := by rw [hV]; exact hb.trans ((bel1 (w := wr) _).mono hb.size)
      have KE : Hid (Blk V wr.heap.size [.int .i64 (elAt us k).a0, .int .i64 (elAt us k).a1, .int .i64 (elAt us k).a2]) := hide (by rw [hV]; exact Blk.new _ _)
      have KN := hide ((unhide K0).below bV)
      have HB := hide bV
      have m0 : V.cell? ⟨w.heap.size, 0, none⟩ = some (.int .i64 n) := (unhide KN).c 0 (by simp)
      have m1 : V.cell? ⟨w.heap.size, 1, none⟩ = some (.slice _ l1 c1) := (unhide KN).c 1 (by simp)
      have m2 : V.cell? ⟨w.heap.size, 2, none⟩ = some (.slice _ l2 c2) := (unhide KN).c 2 (by simp)
      have m3 : V.cell? ⟨w.heap.size, 3, none⟩ = some (.slice _ l3 c3) := (unhide KN).c 3 (by simp)
      rw [hV] at m0 m1 m2 m3
      have HV := hide hV
      obtain ⟨E, hE⟩ : ∃ E, wr.heap.size = E := ⟨_, rfl⟩
      have HEE := hide hE
      rw [hE] at KE
      clear hc hb hV bV hE
      cases x0 : inB (elAt us k).a0 0 (n - 1) with
      | false =>
        have HF := hide (unB_at (n := n) (unhide HLT) (by simp [usB, *]))
        go_wp2_with fail
        rw [← unhide HV, unhide HEE]
        clear HV m0 m1 m2 m3 e0 e1 e2
        refine (has_is _ _ _ _ _ _ _ _ _ _ _ _ hn1 hn2 x0).mono ?_
        rintro x v1 ⟨rfl, bv⟩
        have KE := hide ((unhide KE).below bv)
        have KN := hide ((unhide KN).below bv)
        have HB := hide ((unhide HB).trans (bv.mono (unhide HB).size))
        clear bv HEE
        have y0 : v1.cell? ⟨E, 0, none⟩ = some (.int .i64 (elAt us k).a0) := (unhide KE).c 0 (by simp)
        have y1 : v1.cell? ⟨E, 1, none⟩ = some (.int .i64 (elAt us k).a1) := (unhide KE).c 1 (by simp)
        have y2 : v1.cell? ⟨E, 2, none⟩ = some (.int .i64 (elAt us k).a2) := (unhide KE).c 2 (by simp)
        go_wp2_with (go_at_call 21; refine (within_any _ _ _ _).mono ?_; rintro e w' ⟨rfl, hw⟩; subst w')
        go_ret
        exact ⟨ret_bool (unhide HF).symm, (unhide B0).trans ((unhide HB).mono sB)⟩
      | true =>
        cases x1 : inB (elAt us k).a1 1 100000 with
        | false =>
          have HF := hide (unB_at (n := n) (unhide HLT) (by simp [usB, *]))
          go_wp2_with fail
          rw [← unhide HV, unhide HEE]
          clear HV m0 m1 m2 m3 e0 e1 e2
          refine (has_is _ _ _ _ _ _ _ _ _ _ _ _ hn1 hn2 x0).mono ?_
          rintro x v1 ⟨rfl, bv⟩
          have KE := hide ((unhide KE).below bv)
          have KN := hide ((unhide KN).below bv)
          have HB := hide ((unhide HB).trans (bv.mono (unhide HB).size))
          clear bv HEE
          have y0 : v1.cell? ⟨E, 0, none⟩ = some (.int .i64 (elAt us k).a0) := (unhide KE).c 0 (by simp)
          have y1 : v1.cell? ⟨E, 1, none⟩ = some (.int .i64 (elAt us k).a1) := (unhide KE).c 1 (by simp)
          have y2 : v1.cell? ⟨E, 2, none⟩ = some (.int .i64 (elAt us k).a2) := (unhide KE).c 2 (by simp)
          go_wp2_with (go_at_call 21; refine (within_any _ _ _ _).mono ?_; rintro e w' ⟨rfl, hw⟩; subst w')
          go_ret
          exact ⟨ret_bool (unhide HF).symm, (unhide B0).trans ((unhide HB).mono sB)⟩
        | true =>
          cases x2 : inB (elAt us k).a2 0 9 with
          | false =>
            have HF := hide (unB_at (n := n) (unhide HLT) (by simp [usB, *]))
            go_wp2_with fail
            rw [← unhide HV, unhide HEE]
            clear HV m0 m1 m2 m3 e0 e1 e2
            refine (has_is _ _ _ _ _ _ _ _ _ _ _ _ hn1 hn2 x0).mono ?_
            rintro x v1 ⟨rfl, bv⟩
            have KE := hide ((unhide KE).below bv)
            have KN := hide ((unhide KN).below bv)
            have HB := hide ((unhide HB).trans (bv.mono (unhide HB).size))
            clear bv HEE
            have y0 : v1.cell? ⟨E, 0, none⟩ = some (.int .i64 (elAt us k).a0) := (unhide KE).c 0 (by simp)
            have y1 : v1.cell? ⟨E, 1, none⟩ = some (.int .i64 (elAt us k).a1) := (unhide KE).c 1 (by simp)
            have y2 : v1.cell? ⟨E, 2, none⟩ = some (.int .i64 (elAt us k).a2) := (unhide KE).c 2 (by simp)
            go_wp2_with (go_at_call 21; refine (within_any _ _ _ _).mono ?_; rintro e w' ⟨rfl, hw⟩; subst w')
            go_ret
            exact ⟨ret_bool (unhide HF).symm, (unhide B0).trans ((unhide HB).mono sB)⟩
          | true =>
            have HJ1 : Hid (∀ j, j < k + 1 → usB n (elAt us j) = true) := hide fun j hj => by
              rcases Nat.lt_succ_iff_lt_or_eq.1 hj with h | h
              · exact unhide HJ j h
              · subst h; simp [usB, *]
            go_wp2_with fail
            rw [← unhide HV, unhide HEE]
            clear HV m0 m1 m2 m3 e0 e1 e2
            refine (has_is _ _ _ _ _ _ _ _ _ _ _ _ hn1 hn2 x0).mono ?_
            rintro x v1 ⟨rfl, bv⟩
            have KE := hide ((unhide KE).below bv)
            have KN := hide ((unhide KN).below bv)
            have HB := hide ((unhide HB).trans (bv.mono (unhide HB).size))
            clear bv HEE
            have y0 : v1.cell? ⟨E, 0, none⟩ = some (.int .i64 (elAt us k).a0) := (unhide KE).c 0 (by simp)
            have y1 : v1.cell? ⟨E, 1, none⟩ = some (.int .i64 (elAt us k).a1) := (unhide KE).c 1 (by simp)
            have y2 : v1.cell? ⟨E, 2, none⟩ = some (.int .i64 (elAt us k).a2) := (unhide KE).c 2 (by simp)
            go_wp2_with (go_at_call 21; refine (within_any _ _ _ _).mono ?_; rintro e w' ⟨rfl, hw⟩; subst w')
            go_roundw
            case rel => exact ⟨k + 1, by go_num, by omega, HJ1, unhide HB⟩
            case measure => simp [intOf]; omega
    · have hlt' : ¬ (k : Int) < (l3 : Int) := by omega
      have HE := hide (unB_yes (n := n) (show us.length ≤ 40 by rw [unhide Z]; exact unhide G) (fun i hi => unhide HJ i (by rw [unhide Z] at hi; omega)))
      have HB := hide hb
      clear hb
      go_wp2_with fail
      go_ret
      exact ⟨ret_bool (unhide HE).symm, (unhide B0).trans ((unhide HB).mono sB)⟩
theorem usesOk_is {c : Bool} (n : Int) (a1 a2 a3 : Option Addr) (l1 c1 l2 c2 l3 c3 : Nat) (us : List Us) (w : World) (hn1 : 1 ≤ n) (hn2 : n ≤ 8) (r : RowE 3 usC w a3 l3 us) (h : unB n us = c) :
    Calls Try.prog 50 #[.agg #[.int .i64 n, .slice a1 l1 c1, .slice a2 l2 c2, .slice a3 l3 c3]] w fun x w' => x = .returned (.bool c) ∧ Below w.heap.size w w' := by
  subst h; exact usesOk_any n a1 a2 a3 l1 c1 l2 c2 l3 c3 us w hn1 hn2 r
set_option maxHeartbeats 2000000 in
theorem implNetOk_any (n : Int) (a1 a2 a3 : Option Addr) (l1 c1 l2 c2 l3 c3 : Nat) (ss : List Sr) (ts : List Ti) (us : List Us) (w : World) (r1 : RowE 3 srC w a1 l1 ss) (r2 : RowE 3 tiC w a2 l2 ts) (r3 : RowE 3 usC w a3 l3 us) :
    Calls Try.prog 33 #[.agg #[.int .i64 n, .slice a1 l1 c1, .slice a2 l2 c2, .slice a3 l3 c3]] w fun x w' => x = .returned (.bool (netB n ss ts us)) ∧ Below w.heap.size w w' := by
  have R1 := hide (r1.alloc (Obj.cells #[.int .i64 n, .slice a1 l1 c1, .slice a2 l2 c2, .slice a3 l3 c3] 44))
  have R2 := hide (r2.alloc (Obj.cells #[.int .i64 n, .slice a1 l1 c1, .slice a2 l2 c2, .slice a3 l3 c3] 44))
  have R3 := hide (r3.alloc (Obj.cells #[.int .i64 n, .slice a1 l1 c1, .slice a2 l2 c2, .slice a3 l3 c3] 44))
  clear r1 r2 r3
  have B0 := hide (bel1 (w := w) (Obj.cells #[.int .i64 n, .slice a1 l1 c1, .slice a2 l2 c2, .slice a3 l3 c3] 44))
  have K0 := hide (Blk.new (w := w) [.int .i64 n, .slice a1 l1 c1, .slice a2 l2 c2, .slice a3 l3 c3] 44)
  cases h0 : inB n 1 8 with
  | false =>
    have HE := hide (netB_no (ss := ss) (ts := ts) (us := us) (.inl h0))
    go_enter Try.func33, Try.ntmps33
    go_wp2_with (go_at_call 21; refine (within_any _ _ _ _).mono ?_; rintro e w' ⟨rfl, hw⟩; subst w')
    go_ret
    exact ⟨ret_bool (unhide HE).symm, unhide B0⟩
  | true =>
    have hn := in_facts h0
    cases h1 : ssB n ss with
    | false =>
      have HE := hide (netB_no (ss := ss) (ts := ts) (us := us) (.inr (.inl h1)))
      go_enter Try.func33, Try.ntmps33
      go_wp2_with (go_at_call 21; refine (within_any _ _ _ _).mono ?_; rintro e w' ⟨rfl, hw⟩; subst w')
      refine (sourcesOk_is _ _ _ _ _ _ _ _ _ _ ss _ hn.1 hn.2 (unhide R1) h1).mono ?_
      rintro x w1 ⟨rfl, b1⟩
      have B0 := hide ((unhide B0).trans (b1.mono (unhide B0).size))
      have R2 := hide ((unhide R2).below b1)
      have R3 := hide ((unhide R3).below b1)
      have K0 := hide ((unhide K0).below b1)
      have m0 : w1.cell? ⟨w.heap.size, 0, none⟩ = some (.int .i64 n) := (unhide K0).c 0 (by simp)
      have m1 : w1.cell? ⟨w.heap.size, 1, none⟩ = some (.slice a1 l1 c1) := (unhide K0).c 1 (by simp)
      have m2 : w1.cell? ⟨w.heap.size, 2, none⟩ = some (.slice a2 l2 c2) := (unhide K0).c 2 (by simp)
      have m3 : w1.cell? ⟨w.heap.size, 3, none⟩ = some (.slice a3 l3 c3) := (unhide K0).c 3 (by simp)
      clear b1
      go_wp2_with fail
      go_ret
      exact ⟨ret_bool (unhide HE).symm, unhide B0⟩
    | true =>
      cases h2 : tsB n ts with
      | false =>
        have HE := hide (netB_no (ss := ss) (ts := ts) (us := us) (.inr (.inr (.inl h2))))
        go_enter Try.func33, Try.ntmps33
        go_wp2_with (go_at_call 21; refine (within_any _ _ _ _).mono ?_; rintro e w' ⟨rfl, hw⟩; subst w')
        refine (sourcesOk_is _ _ _ _ _ _ _ _ _ _ ss _ hn.1 hn.2 (unhide R1) h1).mono ?_
        rintro x w1 ⟨rfl, b1⟩
        have B0 := hide ((unhide B0).trans (b1.mono (unhide B0).size))
        have R2 := hide ((unhide R2).below b1)
        have R3 := hide ((unhide R3).below b1)
        have K0 := hide ((unhide K0).below b1)
        have m0 : w1.cell? ⟨w.heap.size, 0, none⟩ = some (.int .i64 n) := (unhide K0).c 0 (by simp)
        have m1 : w1.cell? ⟨w.heap.size, 1, none⟩ = some (.slice a1 l1 c1) := (unhide K0).c 1 (by simp)
        have m2 : w1.cell? ⟨w.heap.size, 2, none⟩ = some (.slice a2 l2 c2) := (unhide K0).c 2 (by simp)
        have m3 : w1.cell? ⟨w.heap.size, 3, none⟩ = some (.slice a3 l3 c3) := (unhide K0).c 3 (by simp)
        clear b1
        go_wp2_with fail
        refine (tiesOk_is _ _ _ _ _ _ _ _ _ _ ts _ hn.1 hn.2 (unhide R2) h2).mono ?_
        rintro x w2 ⟨rfl, b2⟩
        have B0 := hide ((unhide B0).trans (b2.mono (unhide B0).size))
        have R3 := hide ((unhide R3).below b2)
        have K0 := hide ((unhide K0).below b2)
        have m0 : w2.cell? ⟨w.heap.size, 0, none⟩ = some (.int .i64 n) := (unhide K0).c 0 (by simp)
        have m1 : w2.cell? ⟨w.heap.size, 1, none⟩ = some (.slice a1 l1 c1) := (unhide K0).c 1 (by simp)
        have m2 : w2.cell? ⟨w.heap.size, 2, none⟩ = some (.slice a2 l2 c2) := (unhide K0).c 2 (by simp)
        have m3 : w2.cell? ⟨w.heap.size, 3, none⟩ = some (.slice a3 l3 c3) := (unhide K0).c 3 (by simp)
        clear b2
        go_wp2_with fail
        go_ret
        exact ⟨ret_bool (unhide HE).symm, unhide B0⟩
      | true =>
        cases h3 : unB n us with
        | false =>
          have HE := hide (netB_no (ss := ss) (ts := ts) (us := us) (.inr (.inr (.inr h3))))
          go_enter Try.func33, Try.ntmps33
          go_wp2_with (go_at_call 21; refine (within_any _ _ _ _).mono ?_; rintro e w' ⟨rfl, hw⟩; subst w')
          refine (sourcesOk_is _ _ _ _ _ _ _ _ _ _ ss _ hn.1 hn.2 (unhide R1) h1).mono ?_
          rintro x w1 ⟨rfl, b1⟩
          have B0 := hide ((unhide B0).trans (b1.mono (unhide B0).size))
          have R2 := hide ((unhide R2).below b1)
          have R3 := hide ((unhide R3).below b1)
          have K0 := hide ((unhide K0).below b1)
          have m0 : w1.cell? ⟨w.heap.size, 0, none⟩ = some (.int .i64 n) := (unhide K0).c 0 (by simp)
          have m1 : w1.cell? ⟨w.heap.size, 1, none⟩ = some (.slice a1 l1 c1) := (unhide K0).c 1 (by simp)
          have m2 : w1.cell? ⟨w.heap.size, 2, none⟩ = some (.slice a2 l2 c2) := (unhide K0).c 2 (by simp)
          have m3 : w1.cell? ⟨w.heap.size, 3, none⟩ = some (.slice a3 l3 c3) := (unhide K0).c 3 (by simp)
          clear b1
          go_wp2_with fail
          refine (tiesOk_is _ _ _ _ _ _ _ _ _ _ ts _ hn.1 hn.2 (unhide R2) h2).mono ?_
          rintro x w2 ⟨rfl, b2⟩
          have B0 := hide ((unhide B0).trans (b2.mono (unhide B0).size))
          have R3 := hide ((unhide R3).below b2)
          have K0 := hide ((unhide K0).below b2)
          have m0 : w2.cell? ⟨w.heap.size, 0, none⟩ = some (.int .i64 n) := (unhide K0).c 0 (by simp)
          have m1 : w2.cell? ⟨w.heap.size, 1, none⟩ = some (.slice a1 l1 c1) := (unhide K0).c 1 (by simp)
          have m2 : w2.cell? ⟨w.heap.size, 2, none⟩ = some (.slice a2 l2 c2) := (unhide K0).c 2 (by simp)
          have m3 : w2.cell? ⟨w.heap.size, 3, none⟩ = some (.slice a3 l3 c3) := (unhide K0).c 3 (by simp)
          clear b2
          go_wp2_with fail
          refine (usesOk_is _ _ _ _ _ _ _ _ _ _ us _ hn.1 hn.2 (unhide R3) h3).mono ?_
          rintro x w3 ⟨rfl, b3⟩
          have B0 := hide ((unhide B0).trans (b3.mono (unhide B0).size))
          have K0 := hide ((unhide K0).below b3)
          have m0 : w3.cell? ⟨w.heap.size, 0, none⟩ = some (.int .i64 n) := (unhide K0).c 0 (by simp)
          have m1 : w3.cell? ⟨w.heap.size, 1, none⟩ = some (.slice a1 l1 c1) := (unhide K0).c 1 (by simp)
          have m2 : w3.cell? ⟨w.heap.size, 2, none⟩ = some (.slice a2 l2 c2) := (unhide K0).c 2 (by simp)
          have m3 : w3.cell? ⟨w.heap.size, 3, none⟩ = some (.slice a3 l3 c3) := (unhide K0).c 3 (by simp)
          clear b3
          go_wp2_with fail
          go_ret
          exact ⟨ret_bool (unhide HE).symm, unhide B0⟩
        | true =>
          have HE := hide (netB_yes (ss := ss) (ts := ts) (us := us) h0 h1 h2 h3)
          go_enter Try.func33, Try.ntmps33
          go_wp2_with (go_at_call 21; refine (within_any _ _ _ _).mono ?_; rintro e w' ⟨rfl, hw⟩; subst w')
          refine (sourcesOk_is _ _ _ _ _ _ _ _ _ _ ss _ hn.1 hn.2 (unhide R1) h1).mono ?_
          rintro x w1 ⟨rfl, b1⟩
          have B0 := hide ((unhide B0).trans (b1.mono (unhide B0).size))
          have R2 := hide ((unhide R2).below b1)
          have R3 := hide ((unhide R3).below b1)
          have K0 := hide ((unhide K0).below b1)
          have m0 : w1.cell? ⟨w.heap.size, 0, none⟩ = some (.int .i64 n) := (unhide K0).c 0 (by simp)
          have m1 : w1.cell? ⟨w.heap.size, 1, none⟩ = some (.slice a1 l1 c1) := (unhide K0).c 1 (by simp)
          have m2 : w1.cell? ⟨w.heap.size, 2, none⟩ = some (.slice a2 l2 c2) := (unhide K0).c 2 (by simp)
          have m3 : w1.cell? ⟨w.heap.size, 3, none⟩ = some (.slice a3 l3 c3) := (unhide K0).c 3 (by simp)
          clear b1
          go_wp2_with fail
          refine (tiesOk_is _ _ _ _ _ _ _ _ _ _ ts _ hn.1 hn.2 (unhide R2) h2).mono ?_
          rintro x w2 ⟨rfl, b2⟩
          have B0 := hide ((unhide B0).trans (b2.mono (unhide B0).size))
          have R3 := hide ((unhide R3).below b2)
          have K0 := hide ((unhide K0).below b2)
          have m0 : w2.cell? ⟨w.heap.size, 0, none⟩ = some (.int .i64 n) := (unhide K0).c 0 (by simp)
          have m1 : w2.cell? ⟨w.heap.size, 1, none⟩ = some (.slice a1 l1 c1) := (unhide K0).c 1 (by simp)
          have m2 : w2.cell? ⟨w.heap.size, 2, none⟩ = some (.slice a2 l2 c2) := (unhide K0).c 2 (by simp)
          have m3 : w2.cell? ⟨w.heap.size, 3, none⟩ = some (.slice a3 l3 c3) := (unhide K0).c 3 (by simp)
          clear b2
          go_wp2_with fail
          refine (usesOk_is _ _ _ _ _ _ _ _ _ _ us _ hn.1 hn.2 (unhide R3) h3).mono ?_
          rintro x w3 ⟨rfl, b3⟩
          have B0 := hide ((unhide B0).trans (b3.mono (unhide B0).size))
          have K0 := hide ((unhide K0).below b3)
          have m0 : w3.cell? ⟨w.heap.size, 0, none⟩ = some (.int .i64 n) := (unhide K0).c 0 (by simp)
          have m1 : w3.cell? ⟨w.heap.size, 1, none⟩ = some (.slice a1 l1 c1) := (unhide K0).c 1 (by simp)
          have m2 : w3.cell? ⟨w.heap.size, 2, none⟩ = some (.slice a2 l2 c2) := (unhide K0).c 2 (by simp)
          have m3 : w3.cell? ⟨w.heap.size, 3, none⟩ = some (.slice a3 l3 c3) := (unhide K0).c 3 (by simp)
          clear b3
          go_wp2_with fail
          go_ret
          exact ⟨ret_bool (unhide HE).symm, unhide B0⟩
end Go.Proofs.Ytfahhjgpgccdhac
