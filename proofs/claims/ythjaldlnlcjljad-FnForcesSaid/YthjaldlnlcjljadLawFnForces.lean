/-
  The law FnForces returns true at every list of bytes and writes nothing that was there: the walk. No condition.
-/
import Derived.Test.YthjaldlnlcjljadAtFix
import Derived.Test.YthjaldlnlcjljadBel
import Derived.Test.YthjaldlnlcjljadDrawMon
import Derived.Test.YthjaldlnlcjljadMonIs
import Derived.Test.YthjaldlnlcjljadFightIs
import Derived.Test.YthjaldlnlcjljadForceFacts
namespace Go.Proofs.Ythjaldlnlcjljad
open Go.RowKit

set_option maxHeartbeats 400000 in
theorem size_is (x : Int) (w : World) (h : -1000000 ≤ x ∧ x ≤ 1000000) :
    Calls Try.prog 13 #[.int .i64 x] w fun e w' => e = .returned (.int .i64 (sizeI x)) ∧ w' = w := by
  by_cases h0 : x < 0
  all_goals
    go_enter Try.func13, Try.ntmps13
    go_wp2
    go_ret
    exact ⟨ret_int (by unfold sizeI; split <;> omega), rfl⟩
theorem row_take {w : World} {a : Option Addr} {len : Nat} {zs : List Int} (h : Row w a len zs) (k : Nat) (hk : k ≤ len) : Row w a k (zs.take k) := by
  have hz := h.len_eq
  have hs := h.small
  refine ⟨by simp; omega, by omega, fun i hi => ?_, fun i => ?_⟩
  · obtain ⟨b, off, ha, hc⟩ := h.cells i (by omega)
    exact ⟨b, off, ha, by rw [nth_take zs k i hi]; exact hc⟩
  · by_cases e : i < k
    · rw [nth_take zs k i e]; exact h.fit i
    · have : nth (zs.take k) i = 0 := by unfold nth; rw [List.getElem?_eq_none (by simp; omega)]; rfl
      rw [this]; omega

set_option maxHeartbeats 1000000 in
theorem lawFnForces_big (a : Option Addr) (len cap : Nat) (w : World) (h : (1048576 : Int) < len) :
    Calls Try.prog 4 #[.slice a len cap] w fun e w' => e = .returned (.bool true) ∧ Below w.heap.size w w' := by
  have hd : decide ((1048576 : Int) < len) = true := by simpa using h
  go_enter Try.func4, Try.ntmps4
  go_wp2_with fail
  refine (big_any a len cap _).mono ?_
  rintro e w' ⟨rfl, hw⟩
  subst w'
  rw [hd]
  go_wp2
  go_ret
  exact ⟨rfl, Below.refl _ _⟩

set_option maxRecDepth 20000 in
set_option maxHeartbeats 8000000 in
theorem lawFnForces_small (a : Option Addr) (len cap : Nat) (w : World) (h : ¬ (1048576 : Int) < len) (hb : Bytes w a len) (hin : ∀ b off, a = some ⟨b, off, none⟩ → b < w.heap.size) :
    Calls Try.prog 4 #[.slice a len cap] w fun e w' => e = .returned (.bool true) ∧ Below w.heap.size w w' := by
  have hd0 : decide ((1048576 : Int) < len) = false := by simpa using h
  have HY := hide hb
  have HIN := hide hin
  have HL : Hid (len ≤ 1048576) := hide (by omega)
  obtain ⟨x0, hx0, hat0⟩ := at_fix a len cap 0 w hb (by omega) (by omega)
  obtain ⟨x1, hx1, hat1⟩ := at_fix a len cap 1 w hb (by omega) (by omega)
  obtain ⟨x2, hx2, hat2⟩ := at_fix a len cap 2 w hb (by omega) (by omega)
  have HAT0 := hide hat0
  have HAT1 := hide hat1
  have HAT2 := hide hat2
  clear hb h hat0 hat1 hat2 hin
  obtain ⟨W1, hW1⟩ : ∃ W1, W1 = w.alloc (Obj.cells #[.int .i64 (x0 - 128), .int .i64 (x1 - 128), .int .i64 (x2 - 128)] 3) := ⟨_, rfl⟩
  have B1 : Hid (Below w.heap.size w W1) := hide (by rw [hW1]; exact bel1 _)
  have RL : Hid (Row W1 (some ⟨w.heap.size, 0, none⟩) 3 [x0 - 128, x1 - 128, x2 - 128]) := hide (by rw [hW1]; exact row_lit w [x0 - 128, x1 - 128, x2 - 128] 3 (by simp) (by simp; omega))
  have HW1 := hide hW1
  clear hW1
  have p0 : -128 ≤ x0 - 128 ∧ x0 - 128 ≤ 127 := by omega
  have p1 : -128 ≤ x1 - 128 ∧ x1 - 128 ≤ 127 := by omega
  have p2 : -128 ≤ x2 - 128 ∧ x2 - 128 ≤ 127 := by omega
  have HS := hide (force_sum p0 p1 p2)
  have hqs : (x0 - 128 + (x1 - 128) + (x2 - 128) != x0 - 128 + (x1 - 128) + (x2 - 128)) = false := by simp
  go_enter Try.func4, Try.ntmps4
  go_wp2_with fail
  refine (big_any a len cap _).mono ?_
  rintro e w' ⟨rfl, hw⟩
  subst w'
  rw [hd0]
  clear hd0
  go_wp2_with fail
  refine (unhide HAT0 _ (Below.refl _ _)).mono ?_
  rintro e w' ⟨rfl, hw⟩
  subst w'
  go_wp2_with fail
  refine (unhide HAT1 _ (Below.refl _ _)).mono ?_
  rintro e w' ⟨rfl, hw⟩
  subst w'
  go_wp2_with fail
  refine (unhide HAT2 _ (Below.refl _ _)).mono ?_
  rintro e w' ⟨rfl, hw⟩
  subst w'
  clear HAT0 HAT1 HAT2
  go_wp2_with fail
  rw [← unhide HW1]
  clear HW1
  refine (implFight_any _ _ _ [x0 - 128, x1 - 128, x2 - 128] 100 _ (unhide RL)).mono ?_
  rintro e w2 ⟨rfl, n2, hw2⟩
  rw [unhide HS]
  have b2 : Below W1.heap.size W1 w2 := by rw [hw2]; exact bel0d n2
  have RL := hide ((unhide RL).below b2)
  have B1 := hide ((unhide B1).trans (b2.mono (unhide B1).size))
  clear b2 hw2
  obtain ⟨ι, f, _, hbf, hall⟩ := belClass w2
  have c0 : ∀ x, (f x).cell? ⟨w.heap.size, 0, none⟩ = some (.int .i64 (x0 - 128)) := fun x => by
    have c : w2.cell? ⟨w.heap.size, 0, none⟩ = some (.int .i64 (x0 - 128)) := by
      rcases (unhide RL).open_ with ⟨h0, _⟩ | ⟨bb, off, e, _, hc⟩
      · omega
      · simp only [Option.some.injEq, Addr.mk.injEq, and_true] at e; obtain ⟨rfl, rfl⟩ := e; exact hc 0 (by omega)
    exact ((hbf x).cell (block_lt_of_cell c)).trans c
  have c1 : ∀ x, (f x).cell? ⟨w.heap.size, 1, none⟩ = some (.int .i64 (x1 - 128)) := fun x => by
    have c : w2.cell? ⟨w.heap.size, 1, none⟩ = some (.int .i64 (x1 - 128)) := by
      rcases (unhide RL).open_ with ⟨h0, _⟩ | ⟨bb, off, e, _, hc⟩
      · omega
      · simp only [Option.some.injEq, Addr.mk.injEq, and_true] at e; obtain ⟨rfl, rfl⟩ := e; exact hc 1 (by omega)
    exact ((hbf x).cell (block_lt_of_cell c)).trans c
  have c2 : ∀ x, (f x).cell? ⟨w.heap.size, 2, none⟩ = some (.int .i64 (x2 - 128)) := fun x => by
    have c : w2.cell? ⟨w.heap.size, 2, none⟩ = some (.int .i64 (x2 - 128)) := by
      rcases (unhide RL).open_ with ⟨h0, _⟩ | ⟨bb, off, e, _, hc⟩
      · omega
      · simp only [Option.some.injEq, Addr.mk.injEq, and_true] at e; obtain ⟨rfl, rfl⟩ := e; exact hc 2 (by omega)
    exact ((hbf x).cell (block_lt_of_cell c)).trans c
  have HF := hide hbf
  have HA := hide hall
  have HB := hide (fun x => (unhide B1).trans ((hbf x).mono (unhide B1).size))
  clear hbf hall RL B1
  by_cases g1 : 100 < sizeI (x0 - 128 - (x1 - 128))
  · skip
    have HFC := hide (force_far p0 p1 p2 (.inl g1))
    rw [unhide HFC]
    go_wp2_with fail
    refine wp_region_bel (unhide HA) (by kernel_rfl) (by kernel_rfl) ?_
    repeat (go_big_quiet_step ((go_at_call 13; exact belS (size_is _ _ (by omega)))))
    refine wpQuiet_nil ?_
    rintro _ ⟨y3, rfl⟩
    have HA3 : Hid (∀ w', Below (f y3).heap.size (f y3) w' → ∃ x, w' = f x) := hide fun w' hw => unhide HA _ ((unhide HF y3).trans (hw.mono (unhide HF y3).size))
    go_wp2_with fail
    refine wp_region_bel (unhide HA3) (by kernel_rfl) (by kernel_rfl) ?_
    repeat (go_big_quiet_step (fail))
    refine wpQuiet_nil ?_
    rintro _ ⟨y4, rfl⟩
    have hbB := unhide HB y4
    obtain ⟨W4, hW4⟩ : ∃ W, f y4 = W := ⟨_, rfl⟩
    rw [hW4] at hbB ⊢
    have BB := hide hbB
    clear hW4 hbB c0 c1 c2 HF HA HB
    go_wp2_with fail
    refine (drawMonitor_any a len cap _ ((unhide HY).below (unhide BB)) (fun b off e => Nat.lt_of_lt_of_le (unhide HIN b off e) (unhide BB).size) (unhide HL)).mono ?_
    rintro x w5 ⟨ad, zs, c, lo, hi, hold, rfl, o5, hzl, hlo, hhi, hho, b5⟩
    obtain ⟨N, hN⟩ : ∃ N, zs.length = N := ⟨_, rfl⟩
    rw [hN] at o5 ⊢
    have R5 := hide o5.row
    have CP : N ≤ c := by
      rcases o5.form with ⟨e, h0⟩ | ⟨g, c', e, _, _, hc, _⟩
      · rw [h0] at hN; simp at hN; omega
      · simp only [Value.slice.injEq] at e; omega
    have HN := hide hN
    have hN6 : N ≤ 600 := by omega
    have BB := hide ((unhide BB).trans (b5.mono (unhide BB).size))
    clear o5 b5 hN hzl
    go_wp2_with fail
    refine (implMonitor_any _ _ _ zs lo hi hold _ (unhide R5)).mono ?_
    rintro x w6 ⟨rfl, n6, hw6⟩
    have b6 : Below w5.heap.size w5 w6 := by rw [hw6]; exact bel0d n6
    have R5 := hide ((unhide R5).below b6)
    have BB := hide ((unhide BB).trans (b6.mono (unhide BB).size))
    clear b6 hw6
    cases hm : monB zs lo hi hold with
    | false =>
      rw [mon_no hm]
      obtain ⟨W7, hW7⟩ : ∃ W, W = w6.alloc (Obj.cells #[.int .i64 9, .int .i64 1, .int .i64 9, .int .i64 9] 3) := ⟨_, rfl⟩
      have R7 : Hid (Row W7 (some ⟨w6.heap.size, 0, none⟩) 4 [9, 1, 9, 9]) := hide (by rw [hW7]; exact row_lit w6 [9, 1, 9, 9] 3 (by decide) (by decide))
      have B7 : Hid (Below w.heap.size w W7) := hide (by rw [hW7]; exact (unhide BB).trans ((bel1 _).mono (unhide BB).size))
      have HW7 := hide hW7
      clear hW7
      go_wp2_with fail
      rw [← unhide HW7]
      clear HW7
      refine (implMonitor_any _ _ _ [9, 1, 9, 9] 0 5 2 _ (unhide R7)).mono ?_
      rintro x w8 ⟨rfl, n8, hw8⟩
      have B8 : Hid (Below w.heap.size w w8) := hide (by rw [hw8]; exact (unhide B7).trans (bel0d' n8))
      rw [mon_four.1, mon_four.2]
      clear hw8
      go_wp2_with fail
      go_ret
      exact ⟨rfl, unhide B8⟩
    | true =>
      obtain ⟨k, hs⟩ := mon_said hm
      rw [hs.eq]
      have HM := hide hs
      have h1 := hs.h0
      have h2 := hs.h1
      have h3 := hs.ge
      have h4 : k < N := by rw [← unhide HN]; exact hs.lt
      have h5 : ¬ (k : Int) < hold - 1 := by omega
      have h6 : ¬ (N : Int) ≤ (k : Int) := by omega
      clear hs hm
      rcases (unhide R5).open_ with ⟨h0, _⟩ | ⟨bb, off, rfl, _, hc⟩
      · omega
      have HC := hide hc
      clear hc
      go_wp2_with fail
      go_loopw [15] (fun i wr => ∃ j : Nat, i = .int .i64 (j : Int) ∧ (k : Int) - hold < (j : Int) ∧ j ≤ k + 1 ∧ wr = w6) (fun i _ => k + 1 - (intOf i).toNat)
      case atStart => exact ⟨((k : Int) - hold + 1).toNat, by congr 1; omega, by omega, by omega, rfl⟩
      case round =>
        obtain ⟨j, rfl, hj1, hj2, hwr⟩ := hrel
        subst wr
        by_cases hle : (j : Int) ≤ (k : Int)
        · have cj := (unhide HC) j (by omega)
          have j1 : (j : Int) < (N : Int) := by omega
          have j0 : (0 : Int) ≤ (j : Int) := by omega
          have HO := hide ((unhide HM).out j hj1 (by omega))
          by_cases g1 : lo ≤ nth zs j
          · have g2 : ¬ nth zs j ≤ hi := fun e => (unhide HO) ⟨g1, e⟩
            go_wp2_with fail
            go_roundw
            case rel => exact ⟨j + 1, by go_num, by omega, by omega, by first | rfl | trivial⟩
            case measure => simp [intOf]; omega
          · go_wp2_with fail
            go_roundw
            case rel => exact ⟨j + 1, by go_num, by omega, by omega, by first | rfl | trivial⟩
            case measure => simp [intOf]; omega
        · have kc : (k : Int) ≤ (c : Int) := by omega
          have k0 : (0 : Int) ≤ (k : Int) := by omega
          have RT := hide (row_take (unhide R5) k (by omega))
          go_wp2_with fail
          refine (implMonitor_any _ _ _ (zs.take k) lo hi hold _ (unhide RT)).mono ?_
          rintro x w8 ⟨rfl, n8, hw8⟩
          have B8 : Hid (Below w.heap.size w w8) := hide (by rw [hw8]; exact (unhide BB).trans (bel0d' n8))
          rw [(unhide HM).first]
          clear hw8
          go_wp2_with fail
          go_ret
          exact ⟨rfl, unhide B8⟩
  by_cases g2 : 100 < sizeI (x1 - 128 - (x2 - 128))
  · skip
    have HFC := hide (force_far p0 p1 p2 (.inr (.inl g2)))
    rw [unhide HFC]
    have G1 := hide g1
    clear g1
    go_wp2_with fail
    have d1 : decide (100 < sizeI (x0 - 128 - (x1 - 128))) = false := decide_eq_false (by have e := unhide G1; omega)
    refine wp_region_bel (unhide HA) (by kernel_rfl) (by kernel_rfl) ?_
    repeat (go_big_quiet_step ((go_at_call 13; exact belS (size_is _ _ (by omega)))))
    refine wpQuiet_nil ?_
    rintro _ ⟨y3, rfl⟩
    have HA3 : Hid (∀ w', Below (f y3).heap.size (f y3) w' → ∃ x, w' = f x) := hide fun w' hw => unhide HA _ ((unhide HF y3).trans (hw.mono (unhide HF y3).size))
    go_wp2_with fail
    refine wp_region_bel (unhide HA3) (by kernel_rfl) (by kernel_rfl) ?_
    repeat (go_big_quiet_step (fail))
    refine wpQuiet_nil ?_
    rintro _ ⟨y4, rfl⟩
    have hbB := unhide HB y4
    obtain ⟨W4, hW4⟩ : ∃ W, f y4 = W := ⟨_, rfl⟩
    rw [hW4] at hbB ⊢
    have BB := hide hbB
    clear hW4 hbB c0 c1 c2 HF HA HB
    go_wp2_with fail
    refine (drawMonitor_any a len cap _ ((unhide HY).below (unhide BB)) (fun b off e => Nat.lt_of_lt_of_le (unhide HIN b off e) (unhide BB).size) (unhide HL)).mono ?_
    rintro x w5 ⟨ad, zs, c, lo, hi, hold, rfl, o5, hzl, hlo, hhi, hho, b5⟩
    obtain ⟨N, hN⟩ : ∃ N, zs.length = N := ⟨_, rfl⟩
    rw [hN] at o5 ⊢
    have R5 := hide o5.row
    have CP : N ≤ c := by
      rcases o5.form with ⟨e, h0⟩ | ⟨g, c', e, _, _, hc, _⟩
      · rw [h0] at hN; simp at hN; omega
      · simp only [Value.slice.injEq] at e; omega
    have HN := hide hN
    have hN6 : N ≤ 600 := by omega
    have BB := hide ((unhide BB).trans (b5.mono (unhide BB).size))
    clear o5 b5 hN hzl
    go_wp2_with fail
    refine (implMonitor_any _ _ _ zs lo hi hold _ (unhide R5)).mono ?_
    rintro x w6 ⟨rfl, n6, hw6⟩
    have b6 : Below w5.heap.size w5 w6 := by rw [hw6]; exact bel0d n6
    have R5 := hide ((unhide R5).below b6)
    have BB := hide ((unhide BB).trans (b6.mono (unhide BB).size))
    clear b6 hw6
    cases hm : monB zs lo hi hold with
    | false =>
      rw [mon_no hm]
      obtain ⟨W7, hW7⟩ : ∃ W, W = w6.alloc (Obj.cells #[.int .i64 9, .int .i64 1, .int .i64 9, .int .i64 9] 3) := ⟨_, rfl⟩
      have R7 : Hid (Row W7 (some ⟨w6.heap.size, 0, none⟩) 4 [9, 1, 9, 9]) := hide (by rw [hW7]; exact row_lit w6 [9, 1, 9, 9] 3 (by decide) (by decide))
      have B7 : Hid (Below w.heap.size w W7) := hide (by rw [hW7]; exact (unhide BB).trans ((bel1 _).mono (unhide BB).size))
      have HW7 := hide hW7
      clear hW7
      go_wp2_with fail
      rw [← unhide HW7]
      clear HW7
      refine (implMonitor_any _ _ _ [9, 1, 9, 9] 0 5 2 _ (unhide R7)).mono ?_
      rintro x w8 ⟨rfl, n8, hw8⟩
      have B8 : Hid (Below w.heap.size w w8) := hide (by rw [hw8]; exact (unhide B7).trans (bel0d' n8))
      rw [mon_four.1, mon_four.2]
      clear hw8
      go_wp2_with fail
      go_ret
      exact ⟨rfl, unhide B8⟩
    | true =>
      obtain ⟨k, hs⟩ := mon_said hm
      rw [hs.eq]
      have HM := hide hs
      have h1 := hs.h0
      have h2 := hs.h1
      have h3 := hs.ge
      have h4 : k < N := by rw [← unhide HN]; exact hs.lt
      have h5 : ¬ (k : Int) < hold - 1 := by omega
      have h6 : ¬ (N : Int) ≤ (k : Int) := by omega
      clear hs hm
      rcases (unhide R5).open_ with ⟨h0, _⟩ | ⟨bb, off, rfl, _, hc⟩
      · omega
      have HC := hide hc
      clear hc
      go_wp2_with fail
      go_loopw [15] (fun i wr => ∃ j : Nat, i = .int .i64 (j : Int) ∧ (k : Int) - hold < (j : Int) ∧ j ≤ k + 1 ∧ wr = w6) (fun i _ => k + 1 - (intOf i).toNat)
      case atStart => exact ⟨((k : Int) - hold + 1).toNat, by congr 1; omega, by omega, by omega, rfl⟩
      case round =>
        obtain ⟨j, rfl, hj1, hj2, hwr⟩ := hrel
        subst wr
        by_cases hle : (j : Int) ≤ (k : Int)
        · have cj := (unhide HC) j (by omega)
          have j1 : (j : Int) < (N : Int) := by omega
          have j0 : (0 : Int) ≤ (j : Int) := by omega
          have HO := hide ((unhide HM).out j hj1 (by omega))
          by_cases g1 : lo ≤ nth zs j
          · have g2 : ¬ nth zs j ≤ hi := fun e => (unhide HO) ⟨g1, e⟩
            go_wp2_with fail
            go_roundw
            case rel => exact ⟨j + 1, by go_num, by omega, by omega, by first | rfl | trivial⟩
            case measure => simp [intOf]; omega
          · go_wp2_with fail
            go_roundw
            case rel => exact ⟨j + 1, by go_num, by omega, by omega, by first | rfl | trivial⟩
            case measure => simp [intOf]; omega
        · have kc : (k : Int) ≤ (c : Int) := by omega
          have k0 : (0 : Int) ≤ (k : Int) := by omega
          have RT := hide (row_take (unhide R5) k (by omega))
          go_wp2_with fail
          refine (implMonitor_any _ _ _ (zs.take k) lo hi hold _ (unhide RT)).mono ?_
          rintro x w8 ⟨rfl, n8, hw8⟩
          have B8 : Hid (Below w.heap.size w w8) := hide (by rw [hw8]; exact (unhide BB).trans (bel0d' n8))
          rw [(unhide HM).first]
          clear hw8
          go_wp2_with fail
          go_ret
          exact ⟨rfl, unhide B8⟩
  by_cases g3 : 100 < sizeI (x0 - 128 - (x2 - 128))
  · skip
    have HFC := hide (force_far p0 p1 p2 (.inr (.inr g3)))
    rw [unhide HFC]
    have G1 := hide g1
    clear g1
    have G2 := hide g2
    clear g2
    go_wp2_with fail
    have d1 : decide (100 < sizeI (x0 - 128 - (x1 - 128))) = false := decide_eq_false (by have e := unhide G1; omega)
    have d2 : decide (100 < sizeI (x1 - 128 - (x2 - 128))) = false := decide_eq_false (by have e := unhide G2; omega)
    refine wp_region_bel (unhide HA) (by kernel_rfl) (by kernel_rfl) ?_
    repeat (go_big_quiet_step ((go_at_call 13; exact belS (size_is _ _ (by omega)))))
    refine wpQuiet_nil ?_
    rintro _ ⟨y3, rfl⟩
    have HA3 : Hid (∀ w', Below (f y3).heap.size (f y3) w' → ∃ x, w' = f x) := hide fun w' hw => unhide HA _ ((unhide HF y3).trans (hw.mono (unhide HF y3).size))
    go_wp2_with fail
    refine wp_region_bel (unhide HA3) (by kernel_rfl) (by kernel_rfl) ?_
    repeat (go_big_quiet_step (fail))
    refine wpQuiet_nil ?_
    rintro _ ⟨y4, rfl⟩
    have hbB := unhide HB y4
    obtain ⟨W4, hW4⟩ : ∃ W, f y4 = W := ⟨_, rfl⟩
    rw [hW4] at hbB ⊢
    have BB := hide hbB
    clear hW4 hbB c0 c1 c2 HF HA HB
    go_wp2_with fail
    refine (drawMonitor_any a len cap _ ((unhide HY).below (unhide BB)) (fun b off e => Nat.lt_of_lt_of_le (unhide HIN b off e) (unhide BB).size) (unhide HL)).mono ?_
    rintro x w5 ⟨ad, zs, c, lo, hi, hold, rfl, o5, hzl, hlo, hhi, hho, b5⟩
    obtain ⟨N, hN⟩ : ∃ N, zs.length = N := ⟨_, rfl⟩
    rw [hN] at o5 ⊢
    have R5 := hide o5.row
    have CP : N ≤ c := by
      rcases o5.form with ⟨e, h0⟩ | ⟨g, c', e, _, _, hc, _⟩
      · rw [h0] at hN; simp at hN; omega
      · simp only [Value.slice.injEq] at e; omega
    have HN := hide hN
    have hN6 : N ≤ 600 := by omega
    have BB := hide ((unhide BB).trans (b5.mono (unhide BB).size))
    clear o5 b5 hN hzl
    go_wp2_with fail
    refine (implMonitor_any _ _ _ zs lo hi hold _ (unhide R5)).mono ?_
    rintro x w6 ⟨rfl, n6, hw6⟩
    have b6 : Below w5.heap.size w5 w6 := by rw [hw6]; exact bel0d n6
    have R5 := hide ((unhide R5).below b6)
    have BB := hide ((unhide BB).trans (b6.mono (unhide BB).size))
    clear b6 hw6
    cases hm : monB zs lo hi hold with
    | false =>
      rw [mon_no hm]
      obtain ⟨W7, hW7⟩ : ∃ W, W = w6.alloc (Obj.cells #[.int .i64 9, .int .i64 1, .int .i64 9, .int .i64 9] 3) := ⟨_, rfl⟩
      have R7 : Hid (Row W7 (some ⟨w6.heap.size, 0, none⟩) 4 [9, 1, 9, 9]) := hide (by rw [hW7]; exact row_lit w6 [9, 1, 9, 9] 3 (by decide) (by decide))
      have B7 : Hid (Below w.heap.size w W7) := hide (by rw [hW7]; exact (unhide BB).trans ((bel1 _).mono (unhide BB).size))
      have HW7 := hide hW7
      clear hW7
      go_wp2_with fail
      rw [← unhide HW7]
      clear HW7
      refine (implMonitor_any _ _ _ [9, 1, 9, 9] 0 5 2 _ (unhide R7)).mono ?_
      rintro x w8 ⟨rfl, n8, hw8⟩
      have B8 : Hid (Below w.heap.size w w8) := hide (by rw [hw8]; exact (unhide B7).trans (bel0d' n8))
      rw [mon_four.1, mon_four.2]
      clear hw8
      go_wp2_with fail
      go_ret
      exact ⟨rfl, unhide B8⟩
    | true =>
      obtain ⟨k, hs⟩ := mon_said hm
      rw [hs.eq]
      have HM := hide hs
      have h1 := hs.h0
      have h2 := hs.h1
      have h3 := hs.ge
      have h4 : k < N := by rw [← unhide HN]; exact hs.lt
      have h5 : ¬ (k : Int) < hold - 1 := by omega
      have h6 : ¬ (N : Int) ≤ (k : Int) := by omega
      clear hs hm
      rcases (unhide R5).open_ with ⟨h0, _⟩ | ⟨bb, off, rfl, _, hc⟩
      · omega
      have HC := hide hc
      clear hc
      go_wp2_with fail
      go_loopw [15] (fun i wr => ∃ j : Nat, i = .int .i64 (j : Int) ∧ (k : Int) - hold < (j : Int) ∧ j ≤ k + 1 ∧ wr = w6) (fun i _ => k + 1 - (intOf i).toNat)
      case atStart => exact ⟨((k : Int) - hold + 1).toNat, by congr 1; omega, by omega, by omega, rfl⟩
      case round =>
        obtain ⟨j, rfl, hj1, hj2, hwr⟩ := hrel
        subst wr
        by_cases hle : (j : Int) ≤ (k : Int)
        · have cj := (unhide HC) j (by omega)
          have j1 : (j : Int) < (N : Int) := by omega
          have j0 : (0 : Int) ≤ (j : Int) := by omega
          have HO := hide ((unhide HM).out j hj1 (by omega))
          by_cases g1 : lo ≤ nth zs j
          · have g2 : ¬ nth zs j ≤ hi := fun e => (unhide HO) ⟨g1, e⟩
            go_wp2_with fail
            go_roundw
            case rel => exact ⟨j + 1, by go_num, by omega, by omega, by first | rfl | trivial⟩
            case measure => simp [intOf]; omega
          · go_wp2_with fail
            go_roundw
            case rel => exact ⟨j + 1, by go_num, by omega, by omega, by first | rfl | trivial⟩
            case measure => simp [intOf]; omega
        · have kc : (k : Int) ≤ (c : Int) := by omega
          have k0 : (0 : Int) ≤ (k : Int) := by omega
          have RT := hide (row_take (unhide R5) k (by omega))
          go_wp2_with fail
          refine (implMonitor_any _ _ _ (zs.take k) lo hi hold _ (unhide RT)).mono ?_
          rintro x w8 ⟨rfl, n8, hw8⟩
          have B8 : Hid (Below w.heap.size w w8) := hide (by rw [hw8]; exact (unhide BB).trans (bel0d' n8))
          rw [(unhide HM).first]
          clear hw8
          go_wp2_with fail
          go_ret
          exact ⟨rfl, unhide B8⟩
  have HFC := hide (force_near p0 p1 p2 g1 g2 g3)
  rw [unhide HFC]
  have G1 := hide g1
  clear g1
  have G2 := hide g2
  clear g2
  have G3 := hide g3
  clear g3
  go_wp2_with fail
  have d1 : decide (100 < sizeI (x0 - 128 - (x1 - 128))) = false := decide_eq_false (by have e := unhide G1; omega)
  have d2 : decide (100 < sizeI (x1 - 128 - (x2 - 128))) = false := decide_eq_false (by have e := unhide G2; omega)
  have d3 : decide (100 < sizeI (x0 - 128 - (x2 - 128))) = false := decide_eq_false (by have e := unhide G3; omega)
  refine wp_region_bel (unhide HA) (by kernel_rfl) (by kernel_rfl) ?_
  repeat (go_big_quiet_step ((go_at_call 13; exact belS (size_is _ _ (by omega)))))
  refine wpQuiet_nil ?_
  rintro _ ⟨y3, rfl⟩
  have HA3 : Hid (∀ w', Below (f y3).heap.size (f y3) w' → ∃ x, w' = f x) := hide fun w' hw => unhide HA _ ((unhide HF y3).trans (hw.mono (unhide HF y3).size))
  go_wp2_with fail
  refine wp_region_bel (unhide HA3) (by kernel_rfl) (by kernel_rfl) ?_
  repeat (go_big_quiet_step (fail))
  refine wpQuiet_nil ?_
  rintro _ ⟨y4, rfl⟩
  have hbB := unhide HB y4
  obtain ⟨W4, hW4⟩ : ∃ W, f y4 = W := ⟨_, rfl⟩
  rw [hW4] at hbB ⊢
  have BB := hide hbB
  clear hW4 hbB c0 c1 c2 HF HA HB
  go_wp2_with fail
  refine (drawMonitor_any a len cap _ ((unhide HY).below (unhide BB)) (fun b off e => Nat.lt_of_lt_of_le (unhide HIN b off e) (unhide BB).size) (unhide HL)).mono ?_
  rintro x w5 ⟨ad, zs, c, lo, hi, hold, rfl, o5, hzl, hlo, hhi, hho, b5⟩
  obtain ⟨N, hN⟩ : ∃ N, zs.length = N := ⟨_, rfl⟩
  rw [hN] at o5 ⊢
  have R5 := hide o5.row
  have CP : N ≤ c := by
    rcases o5.form with ⟨e, h0⟩ | ⟨g, c', e, _, _, hc, _⟩
    · rw [h0] at hN; simp at hN; omega
    · simp only [Value.slice.injEq] at e; omega
  have HN := hide hN
  have hN6 : N ≤ 600 := by omega
  have BB := hide ((unhide BB).trans (b5.mono (unhide BB).size))
  clear o5 b5 hN hzl
  go_wp2_with fail
  refine (implMonitor_any _ _ _ zs lo hi hold _ (unhide R5)).mono ?_
  rintro x w6 ⟨rfl, n6, hw6⟩
  have b6 : Below w5.heap.size w5 w6 := by rw [hw6]; exact bel0d n6
  have R5 := hide ((unhide R5).below b6)
  have BB := hide ((unhide BB).trans (b6.mono (unhide BB).size))
  clear b6 hw6
  cases hm : monB zs lo hi hold with
  | false =>
    rw [mon_no hm]
    obtain ⟨W7, hW7⟩ : ∃ W, W = w6.alloc (Obj.cells #[.int .i64 9, .int .i64 1, .int .i64 9, .int .i64 9] 3) := ⟨_, rfl⟩
    have R7 : Hid (Row W7 (some ⟨w6.heap.size, 0, none⟩) 4 [9, 1, 9, 9]) := hide (by rw [hW7]; exact row_lit w6 [9, 1, 9, 9] 3 (by decide) (by decide))
    have B7 : Hid (Below w.heap.size w W7) := hide (by rw [hW7]; exact (unhide BB).trans ((bel1 _).mono (unhide BB).size))
    have HW7 := hide hW7
    clear hW7
    go_wp2_with fail
    rw [← unhide HW7]
    clear HW7
    refine (implMonitor_any _ _ _ [9, 1, 9, 9] 0 5 2 _ (unhide R7)).mono ?_
    rintro x w8 ⟨rfl, n8, hw8⟩
    have B8 : Hid (Below w.heap.size w w8) := hide (by rw [hw8]; exact (unhide B7).trans (bel0d' n8))
    rw [mon_four.1, mon_four.2]
    clear hw8
    go_wp2_with fail
    go_ret
    exact ⟨rfl, unhide B8⟩
  | true =>
    obtain ⟨k, hs⟩ := mon_said hm
    rw [hs.eq]
    have HM := hide hs
    have h1 := hs.h0
    have h2 := hs.h1
    have h3 := hs.ge
    have h4 : k < N := by rw [← unhide HN]; exact hs.lt
    have h5 : ¬ (k : Int) < hold - 1 := by omega
    have h6 : ¬ (N : Int) ≤ (k : Int) := by omega
    clear hs hm
    rcases (unhide R5).open_ with ⟨h0, _⟩ | ⟨bb, off, rfl, _, hc⟩
    · omega
    have HC := hide hc
    clear hc
    go_wp2_with fail
    go_loopw [15] (fun i wr => ∃ j : Nat, i = .int .i64 (j : Int) ∧ (k : Int) - hold < (j : Int) ∧ j ≤ k + 1 ∧ wr = w6) (fun i _ => k + 1 - (intOf i).toNat)
    case atStart => exact ⟨((k : Int) - hold + 1).toNat, by congr 1; omega, by omega, by omega, rfl⟩
    case round =>
      obtain ⟨j, rfl, hj1, hj2, hwr⟩ := hrel
      subst wr
      by_cases hle : (j : Int) ≤ (k : Int)
      · have cj := (unhide HC) j (by omega)
        have j1 : (j : Int) < (N : Int) := by omega
        have j0 : (0 : Int) ≤ (j : Int) := by omega
        have HO := hide ((unhide HM).out j hj1 (by omega))
        by_cases g1 : lo ≤ nth zs j
        · have g2 : ¬ nth zs j ≤ hi := fun e => (unhide HO) ⟨g1, e⟩
          go_wp2_with fail
          go_roundw
          case rel => exact ⟨j + 1, by go_num, by omega, by omega, by first | rfl | trivial⟩
          case measure => simp [intOf]; omega
        · go_wp2_with fail
          go_roundw
          case rel => exact ⟨j + 1, by go_num, by omega, by omega, by first | rfl | trivial⟩
          case measure => simp [intOf]; omega
      · have kc : (k : Int) ≤ (c : Int) := by omega
        have k0 : (0 : Int) ≤ (k : Int) := by omega
        have RT := hide (row_take (unhide R5) k (by omega))
        go_wp2_with fail
        refine (implMonitor_any _ _ _ (zs.take k) lo hi hold _ (unhide RT)).mono ?_
        rintro x w8 ⟨rfl, n8, hw8⟩
        have B8 : Hid (Below w.heap.size w w8) := hide (by rw [hw8]; exact (unhide BB).trans (bel0d' n8))
        rw [(unhide HM).first]
        clear hw8
        go_wp2_with fail
        go_ret
        exact ⟨rfl, unhide B8⟩

theorem lawFnForces (a : Option Addr) (len cap : Nat) (w : World) (hb : Bytes w a len) (hin : ∀ b off, a = some ⟨b, off, none⟩ → b < w.heap.size) :
    Calls Try.prog 4 #[.slice a len cap] w fun e w' => e = .returned (.bool true) ∧ Below w.heap.size w w' := by
  by_cases g : (1048576 : Int) < len
  · exact lawFnForces_big a len cap w g
  · exact lawFnForces_small a len cap w g hb hin

end Go.Proofs.Ythjaldlnlcjljad
