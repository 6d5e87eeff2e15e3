/-
  What the model's l6Life, l6Stay and Left6 answer: as the plain functions. Nothing that was there is written.
-/
import Derived.Test.YtnpohiceefkhdaoNameIs
import Derived.Test.YtnpohiceefkhdaoLeftPure
import Derived.Test.YtnpohiceefkhdaoBlk
namespace Go.Proofs.Ytnpohiceefkhdao
open Go.RowKit

set_option maxHeartbeats 2000000 in
theorem l6Life_any (n : ByteArray) (a b c : Int) (w : World) (hn : n.size ≤ 9223372036854775807) :
    Calls Try.prog 43 #[.agg #[.string n, .int .i64 a, .int .i64 b, .int .i64 c]] w fun x w' => x = .returned (.bool (lifeB n a b c)) ∧ Below w.heap.size w w' := by
  rcases four (nameB n) (inB a 0 1000000) (inB b 0 1000000) (inB c 0 1000000) with ⟨h, hv⟩ | ⟨h, h', hv⟩ | ⟨h, h', h'', hv⟩ | ⟨h, h', h'', h3, hv⟩ | ⟨h, h', h'', h3, hv⟩
  all_goals
    have HE : Hid (lifeB n a b c = (nameB n && inB a 0 1000000 && inB b 0 1000000 && inB c 0 1000000)) := hide (by unfold lifeB in3; simp only [Bool.and_assoc])
    rw [hv] at HE
    clear hv
    go_enter Try.func43, Try.ntmps43
    go_wp2_with (first
      | (go_at_call 56; refine (l1Name_any _ _ hn).mono ?_; rintro e w' ⟨rfl, hw⟩; subst w')
      | (go_at_call 41; refine (l1In_any _ _ _ _).mono ?_; rintro e w' ⟨rfl, hw⟩; subst w'))
    go_ret
    exact ⟨ret_bool (unhide HE).symm, bel1 _⟩
theorem l6Life_is {v : Bool} (n : ByteArray) (a b c : Int) (w : World) (hn : n.size ≤ 9223372036854775807) (hc : lifeB n a b c = v) :
    Calls Try.prog 43 #[.agg #[.string n, .int .i64 a, .int .i64 b, .int .i64 c]] w fun x w' => x = .returned (.bool v) ∧ Below w.heap.size w w' := by
  subst hc; exact l6Life_any n a b c w hn

set_option maxHeartbeats 2000000 in
theorem l6Stay_any (n : ByteArray) (a b c : Int) (w : World) (hn : n.size ≤ 9223372036854775807) :
    Calls Try.prog 44 #[.agg #[.string n, .int .i64 a, .int .i64 b, .int .i64 c]] w fun x w' => x = .returned (.bool (stayB n a b c)) ∧ Below w.heap.size w w' := by
  rcases four (nameB n) (inB a 0 10000000) (inB b 0 10000000) (inB c 0 10000000) with ⟨h, hv⟩ | ⟨h, h', hv⟩ | ⟨h, h', h'', hv⟩ | ⟨h, h', h'', h3, hv⟩ | ⟨h, h', h'', h3, hv⟩
  all_goals
    have HE : Hid (stayB n a b c = (nameB n && inB a 0 10000000 && inB b 0 10000000 && inB c 0 10000000)) := hide (by unfold stayB in3; simp only [Bool.and_assoc])
    rw [hv] at HE
    clear hv
    go_enter Try.func44, Try.ntmps44
    go_wp2_with (first
      | (go_at_call 56; refine (l1Name_any _ _ hn).mono ?_; rintro e w' ⟨rfl, hw⟩; subst w')
      | (go_at_call 41; refine (l1In_any _ _ _ _).mono ?_; rintro e w' ⟨rfl, hw⟩; subst w'))
    go_ret
    exact ⟨ret_bool (unhide HE).symm, bel1 _⟩
theorem l6Stay_is {v : Bool} (n : ByteArray) (a b c : Int) (w : World) (hn : n.size ≤ 9223372036854775807) (hc : stayB n a b c = v) :
    Calls Try.prog 44 #[.agg #[.string n, .int .i64 a, .int .i64 b, .int .i64 c]] w fun x w' => x = .returned (.bool v) ∧ Below w.heap.size w w' := by
  subst hc; exact l6Stay_any n a b c w hn

theorem same_text {n m : ByteArray} (h : (n.toList == m.toList) = true) : n = m := by
  have e : n.toList = m.toList := by simpa using h
  rw [ByteArray.toList_eq, ByteArray.toList_eq] at e
  exact ByteArray.ext (Array.ext' e)
theorem left_ok (n m : ByteArray) (b0 b1 b2 s0 s1 s2 : Int) : leftOk n b0 b1 b2 m s0 s1 s2 = (lifeB n b0 b1 b2 && stayB m s0 s1 s2 && (n.toList == m.toList)) := by
  cases h : (n.toList == m.toList) with
  | true =>
    obtain rfl := same_text h
    unfold leftOk lifeB stayB
    rw [h]
    cases nameB n <;> cases in3 b0 b1 b2 1000000 <;> cases in3 s0 s1 s2 10000000 <;> rfl
  | false =>
    have h' : (m.toList == n.toList) = false := by
      cases g : (m.toList == n.toList) with
      | false => rfl
      | true => obtain rfl := same_text g; simp at h
    unfold leftOk
    rw [h']
    simp
theorem prod_bd' {s b : Int} (h : 0 ≤ s ∧ s ≤ 10000000) (h2 : 0 ≤ b ∧ b ≤ 1000000) : 0 ≤ s * b ∧ s * b ≤ 10000000000000 := by
  have a : 0 ≤ s * b := Int.mul_nonneg h.1 h2.1
  have c := (mulBd (s := s) (d := b) (A := 10000000) (B := 1000000) (by omega) h.2 (by omega) h2.2 (by omega) (by omega)).2
  constructor <;> omega

set_option maxRecDepth 20000 in
set_option maxHeartbeats 8000000 in
theorem specLeft6_any (n m : ByteArray) (b0 b1 b2 s0 s1 s2 : Int) (w : World) (hn : n.size ≤ 9223372036854775807) (hm : m.size ≤ 9223372036854775807) :
    Calls Try.prog 19 #[.agg #[.string n, .int .i64 b0, .int .i64 b1, .int .i64 b2], .agg #[.string m, .int .i64 s0, .int .i64 s1, .int .i64 s2]] w fun x w' => x = .returned (.tuple #[.int .i64 (leftR n b0 b1 b2 m s0 s1 s2).1, .int .i64 (leftR n b0 b1 b2 m s0 s1 s2).2.1, .bool (leftR n b0 b1 b2 m s0 s1 s2).2.2]) ∧ Below w.heap.size w w' := by
  have HV := hide (left_ok n m b0 b1 b2 s0 s1 s2)
  have R0 := hide ((Blk.new (w := w) [.string n, .int .i64 b0, .int .i64 b1, .int .i64 b2] 43).alloc (Obj.cells #[.string m, .int .i64 s0, .int .i64 s1, .int .i64 s2] 45))
  have S0 : Hid (Blk ((w.alloc (Obj.cells #[.string n, .int .i64 b0, .int .i64 b1, .int .i64 b2] 43)).alloc (Obj.cells #[.string m, .int .i64 s0, .int .i64 s1, .int .i64 s2] 45)) (w.heap.size + 1) [.string m, .int .i64 s0, .int .i64 s1, .int .i64 s2]) := hide (by
    have := Blk.new (w := w.alloc (Obj.cells #[.string n, .int .i64 b0, .int .i64 b1, .int .i64 b2] 43)) [.string m, .int .i64 s0, .int .i64 s1, .int .i64 s2] 45
    simpa using this)
  have B0 := hide (bel2 (w := w) (Obj.cells #[.string n, .int .i64 b0, .int .i64 b1, .int .i64 b2] 43) (Obj.cells #[.string m, .int .i64 s0, .int .i64 s1, .int .i64 s2] 45))
  have z0 : ((w.alloc (Obj.cells #[.string n, .int .i64 b0, .int .i64 b1, .int .i64 b2] 43)).alloc (Obj.cells #[.string m, .int .i64 s0, .int .i64 s1, .int .i64 s2] 45)).heap.size = w.heap.size + 2 := by simp
  have Z0 := hide z0
  clear z0
  cases g1 : lifeB n b0 b1 b2 with
  | false =>
    have HE := hide (leftR_no (n := n) (m := m) (b0 := b0) (b1 := b1) (b2 := b2) (s0 := s0) (s1 := s1) (s2 := s2) (by rw [unhide HV, g1]; rfl))
    go_enter Try.func19, Try.ntmps19
    go_wp2_with fail
    refine (l6Life_is _ _ _ _ _ hn g1).mono ?_
    rintro x w1 ⟨rfl, c1⟩
    have B1 := hide ((unhide B0).trans (c1.mono (unhide B0).size))
    clear c1
    go_wp2_with fail
    go_ret3
    exact ⟨ret_left (unhide HE).symm, unhide B1⟩
  | true =>
  cases g2 : stayB m s0 s1 s2 with
  | false =>
    have HE := hide (leftR_no (n := n) (m := m) (b0 := b0) (b1 := b1) (b2 := b2) (s0 := s0) (s1 := s1) (s2 := s2) (by rw [unhide HV, g1, g2]; rfl))
    go_enter Try.func19, Try.ntmps19
    go_wp2_with fail
    refine (l6Life_is _ _ _ _ _ hn g1).mono ?_
    rintro x w1 ⟨rfl, c1⟩
    have B1 := hide ((unhide B0).trans (c1.mono (unhide B0).size))
    have S1 := (unhide S0).below c1
    clear c1
    have e0 : w1.cell? ⟨w.heap.size + 1, 0, none⟩ = some (.string m) := S1.c 0 (by simp)
    have e1 : w1.cell? ⟨w.heap.size + 1, 1, none⟩ = some (.int .i64 s0) := S1.c 1 (by simp)
    have e2 : w1.cell? ⟨w.heap.size + 1, 2, none⟩ = some (.int .i64 s1) := S1.c 2 (by simp)
    have e3 : w1.cell? ⟨w.heap.size + 1, 3, none⟩ = some (.int .i64 s2) := S1.c 3 (by simp)
    clear S1
    go_wp2_with fail
    refine (l6Stay_is _ _ _ _ _ hm g2).mono ?_
    rintro x w2 ⟨rfl, c2⟩
    have B2 := hide ((unhide B1).trans (c2.mono (unhide B1).size))
    clear c2
    go_wp2_with fail
    go_ret3
    exact ⟨ret_left (unhide HE).symm, unhide B2⟩
  | true =>
  have G1 := hide g1
  have G2 := hide g2
  clear g1 g2
  go_enter Try.func19, Try.ntmps19
  go_wp2_with fail
  refine (l6Life_is _ _ _ _ _ hn (unhide G1)).mono ?_
  rintro x w1 ⟨rfl, c1⟩
  have B1 := hide ((unhide B0).trans (c1.mono (unhide B0).size))
  have R1 := hide ((unhide R0).below c1)
  have S1 := (unhide S0).below c1
  have z1 : w.heap.size + 2 ≤ w1.heap.size := by have := c1.size; rw [unhide Z0] at this; exact this
  clear c1
  have e0 : w1.cell? ⟨w.heap.size + 1, 0, none⟩ = some (.string m) := S1.c 0 (by simp)
  have e1 : w1.cell? ⟨w.heap.size + 1, 1, none⟩ = some (.int .i64 s0) := S1.c 1 (by simp)
  have e2 : w1.cell? ⟨w.heap.size + 1, 2, none⟩ = some (.int .i64 s1) := S1.c 2 (by simp)
  have e3 : w1.cell? ⟨w.heap.size + 1, 3, none⟩ = some (.int .i64 s2) := S1.c 3 (by simp)
  have S1 := hide S1
  go_wp2_with fail
  refine (l6Stay_is _ _ _ _ _ hm (unhide G2)).mono ?_
  rintro x w2 ⟨rfl, c2⟩
  have B2 := hide ((unhide B1).trans (c2.mono (unhide B1).size))
  have R2 := (unhide R1).below c2
  have S2 := (unhide S1).below c2
  have z2 : w.heap.size + 2 ≤ w2.heap.size := by have := c2.size; omega
  have z2' : w.heap.size + 1 < w2.heap.size := by omega
  clear c2 e0 e1 e2 e3 z1
  have a0 : w2.cell? ⟨w.heap.size, 0, none⟩ = some (.string n) := R2.c 0 (by simp)
  have a1 : w2.cell? ⟨w.heap.size, 1, none⟩ = some (.int .i64 b0) := R2.c 1 (by simp)
  have a2 : w2.cell? ⟨w.heap.size, 2, none⟩ = some (.int .i64 b1) := R2.c 2 (by simp)
  have a3 : w2.cell? ⟨w.heap.size, 3, none⟩ = some (.int .i64 b2) := R2.c 3 (by simp)
  have e0 : w2.cell? ⟨w.heap.size + 1, 0, none⟩ = some (.string m) := S2.c 0 (by simp)
  have e1 : w2.cell? ⟨w.heap.size + 1, 1, none⟩ = some (.int .i64 s0) := S2.c 1 (by simp)
  have e2 : w2.cell? ⟨w.heap.size + 1, 2, none⟩ = some (.int .i64 s1) := S2.c 2 (by simp)
  have e3 : w2.cell? ⟨w.heap.size + 1, 3, none⟩ = some (.int .i64 s2) := S2.c 3 (by simp)
  clear R1 S1 R2 S2 R0 S0
  cases g3 : (n.toList == m.toList) with
  | false =>
    have HE := hide (leftR_no (n := n) (m := m) (b0 := b0) (b1 := b1) (b2 := b2) (s0 := s0) (s1 := s1) (s2 := s2) (by rw [unhide HV, g3]; simp))
    go_wp2_with fail
    go_ret3
    exact ⟨ret_left (unhide HE).symm, unhide B2⟩
  | true =>
  have HOK : Hid (leftOk n b0 b1 b2 m s0 s1 s2 = true) := hide (by rw [unhide HV, unhide G1, unhide G2, g3]; rfl)
  have f1 : in3 b0 b1 b2 1000000 = true := by have := unhide G1; unfold lifeB at this; simp only [Bool.and_eq_true] at this; exact this.2
  have f2 : in3 s0 s1 s2 10000000 = true := by have := unhide G2; unfold stayB at this; simp only [Bool.and_eq_true] at this; exact this.2
  obtain ⟨hb0, hb1, hb2⟩ := in3_facts f1
  obtain ⟨hs0, hs1, hs2⟩ := in3_facts f2
  have p01 := prod_bd' hs0 hb1
  have p02 := prod_bd' hs0 hb2
  have p10 := prod_bd' hs1 hb0
  have p12 := prod_bd' hs1 hb2
  have p20 := prod_bd' hs2 hb0
  have p21 := prod_bd' hs2 hb1
  obtain ⟨W, hW⟩ : ∃ W, W = (w2.alloc (Obj.cells #[.int .i64 b0, .int .i64 b1, .int .i64 b2] 3)).alloc (Obj.cells #[.int .i64 s0, .int .i64 s1, .int .i64 s2] 3) := ⟨_, rfl⟩
  have RB : Hid (Blk W w2.heap.size [.int .i64 b0, .int .i64 b1, .int .i64 b2]) := hide (by rw [hW]; exact (Blk.new _ _).alloc _)
  have RS : Hid (Blk W (w2.heap.size + 1) [.int .i64 s0, .int .i64 s1, .int .i64 s2]) := hide (by
    have := Blk.new (w := w2.alloc (Obj.cells #[.int .i64 b0, .int .i64 b1, .int .i64 b2] 3)) [.int .i64 s0, .int .i64 s1, .int .i64 s2] 3
    rw [hW]; simpa using this)
  have B3 : Hid (Below w.heap.size w W) := hide (by rw [hW]; exact ((unhide B2).alloc (unhide B2).size _).alloc (by simp; omega) _)
  have HW := hide hW
  clear hW f1 f2
  go_wp2_with fail
  rw [← unhide HW]
  clear a0 a1 a2 a3 e0 e1 e2 e3 g3
  go_loopw [9, 10] (fun mv iv wr => ∃ (k : Nat) (M : Int), k ≤ 3 ∧ mv = .int .i64 M ∧ iv = .int .i64 k ∧ Hid (mostTo b0 b1 b2 s0 s1 s2 k = M) ∧ Blk wr w2.heap.size [.int .i64 b0, .int .i64 b1, .int .i64 b2] ∧ Blk wr (w2.heap.size + 1) [.int .i64 s0, .int .i64 s1, .int .i64 s2] ∧ Below w.heap.size w wr) (fun _ i _ => 3 - (intOf i).toNat)
  case atStart => exact ⟨0, -1, by omega, rfl, rfl, hide rfl, unhide RB, unhide RS, unhide B3⟩
  case round =>
    clear RB RS B3 B2 B1 B0 HW
    obtain ⟨k, M, hk, rfl, rfl, HM, hB, hS, hbel⟩ := hrel
    have hin := mostTo_in b0 b1 b2 s0 s1 s2 k
    rw [unhide HM] at hin
    have c0 : wr.cell? ⟨w2.heap.size, 0, none⟩ = some (.int .i64 b0) := hB.c 0 (by simp)
    have c1 : wr.cell? ⟨w2.heap.size, 1, none⟩ = some (.int .i64 b1) := hB.c 1 (by simp)
    have c2 : wr.cell? ⟨w2.heap.size, 2, none⟩ = some (.int .i64 b2) := hB.c 2 (by simp)
    have e0 : wr.cell? ⟨w2.heap.size + 1, 0, none⟩ = some (.int .i64 s0) := hS.c 0 (by simp)
    have e1 : wr.cell? ⟨w2.heap.size + 1, 1, none⟩ = some (.int .i64 s1) := hS.c 1 (by simp)
    have e2 : wr.cell? ⟨w2.heap.size + 1, 2, none⟩ = some (.int .i64 s2) := hS.c 2 (by simp)
    have HB := hide hB
    have HS := hide hS
    have HL := hide hbel
    clear hB hS hbel
    rcases (show k = 0 ∨ k = 1 ∨ k = 2 ∨ k = 3 from by omega) with rfl | rfl | rfl | rfl
    · obtain rfl : M = -1 := by omega
      by_cases hz : 0 < b0
      · have hz0 : b0 ≠ 0 := by omega
        have HN := hide (mostTo_yes (k := 0) (b0 := b0) (b1 := b1) (b2 := b2) (s0 := s0) (s1 := s1) (s2 := s2) (by rw [unhide HM]; simp [moreB, of3, hz0]))
        clear hz0
        go_wp2_with fail
        go_quiet (fail)
        go_wp2_with fail
        go_roundw
        case rel => exact ⟨1, 0, by omega, rfl, by go_num, hide (by rw [unhide HN]; rfl), (unhide HB).drewN _, (unhide HS).drewN _, (unhide HL).trans (bel0d' _)⟩
        case measure => simp [intOf]
      · have hz0 : b0 = 0 := by omega
        have HN := hide (mostTo_no (k := 0) (b0 := b0) (b1 := b1) (b2 := b2) (s0 := s0) (s1 := s1) (s2 := s2) (by rw [unhide HM]; simp [moreB, of3, hz0]))
        rw [hz0] at c0
        clear hz0 hz
        go_wp2_with fail
        go_quiet (fail)
        go_wp2_with fail
        go_roundw
        case rel => exact ⟨1, -1, by omega, rfl, by go_num, hide (by rw [unhide HN, unhide HM]), (unhide HB).drewN _, (unhide HS).drewN _, (unhide HL).trans (bel0d' _)⟩
        case measure => simp [intOf]
    · rcases (show M = -1 ∨ M = 0 from by omega) with rfl | rfl
      · by_cases hz : 0 < b1
        · have hz0 : b1 ≠ 0 := by omega
          have HN := hide (mostTo_yes (k := 1) (b0 := b0) (b1 := b1) (b2 := b2) (s0 := s0) (s1 := s1) (s2 := s2) (by rw [unhide HM]; simp [moreB, of3, hz0]))
          clear hz0
          go_wp2_with fail
          go_quiet (fail)
          go_wp2_with fail
          go_roundw
          case rel => exact ⟨2, 1, by omega, rfl, by go_num, hide (by rw [unhide HN]; rfl), (unhide HB).drewN _, (unhide HS).drewN _, (unhide HL).trans (bel0d' _)⟩
          case measure => simp [intOf]
        · have hz0 : b1 = 0 := by omega
          have HN := hide (mostTo_no (k := 1) (b0 := b0) (b1 := b1) (b2 := b2) (s0 := s0) (s1 := s1) (s2 := s2) (by rw [unhide HM]; simp [moreB, of3, hz0]))
          rw [hz0] at c1
          clear hz0 hz
          go_wp2_with fail
          go_quiet (fail)
          go_wp2_with fail
          go_roundw
          case rel => exact ⟨2, -1, by omega, rfl, by go_num, hide (by rw [unhide HN, unhide HM]), (unhide HB).drewN _, (unhide HS).drewN _, (unhide HL).trans (bel0d' _)⟩
          case measure => simp [intOf]
      · by_cases hz : 0 < b1
        · have hz0 : b1 ≠ 0 := by omega
          by_cases hc : s0 * b1 < s1 * b0
          · have HN := hide (mostTo_yes (k := 1) (b0 := b0) (b1 := b1) (b2 := b2) (s0 := s0) (s1 := s1) (s2 := s2) (by rw [unhide HM]; simp [moreB, of3, hz0, hc]))
            clear hz0
            go_wp2_with fail
            go_quiet (fail)
            go_wp2_with fail
            go_roundw
            case rel => exact ⟨2, 1, by omega, rfl, by go_num, hide (by rw [unhide HN]; rfl), (unhide HB).drewN _, (unhide HS).drewN _, (unhide HL).trans (bel0d' _)⟩
            case measure => simp [intOf]
          · have HN := hide (mostTo_no (k := 1) (b0 := b0) (b1 := b1) (b2 := b2) (s0 := s0) (s1 := s1) (s2 := s2) (by rw [unhide HM]; simp [moreB, of3]; intro _; omega))
            clear hz0
            go_wp2_with fail
            go_quiet (fail)
            go_wp2_with fail
            go_roundw
            case rel => exact ⟨2, 0, by omega, rfl, by go_num, hide (by rw [unhide HN, unhide HM]), (unhide HB).drewN _, (unhide HS).drewN _, (unhide HL).trans (bel0d' _)⟩
            case measure => simp [intOf]
        · have hz0 : b1 = 0 := by omega
          have HN := hide (mostTo_no (k := 1) (b0 := b0) (b1 := b1) (b2 := b2) (s0 := s0) (s1 := s1) (s2 := s2) (by rw [unhide HM]; simp [moreB, of3, hz0]))
          rw [hz0] at c1
          clear hz0 hz
          go_wp2_with fail
          go_quiet (fail)
          go_wp2_with fail
          go_roundw
          case rel => exact ⟨2, 0, by omega, rfl, by go_num, hide (by rw [unhide HN, unhide HM]), (unhide HB).drewN _, (unhide HS).drewN _, (unhide HL).trans (bel0d' _)⟩
          case measure => simp [intOf]
    · rcases (show M = -1 ∨ M = 0 ∨ M = 1 from by omega) with rfl | rfl | rfl
      · by_cases hz : 0 < b2
        · have hz0 : b2 ≠ 0 := by omega
          have HN := hide (mostTo_yes (k := 2) (b0 := b0) (b1 := b1) (b2 := b2) (s0 := s0) (s1 := s1) (s2 := s2) (by rw [unhide HM]; simp [moreB, of3, hz0]))
          clear hz0
          go_wp2_with fail
          go_quiet (fail)
          go_wp2_with fail
          go_roundw
          case rel => exact ⟨3, 2, by omega, rfl, by go_num, hide (by rw [unhide HN]; rfl), (unhide HB).drewN _, (unhide HS).drewN _, (unhide HL).trans (bel0d' _)⟩
          case measure => simp [intOf]
        · have hz0 : b2 = 0 := by omega
          have HN := hide (mostTo_no (k := 2) (b0 := b0) (b1 := b1) (b2 := b2) (s0 := s0) (s1 := s1) (s2 := s2) (by rw [unhide HM]; simp [moreB, of3, hz0]))
          rw [hz0] at c2
          clear hz0 hz
          go_wp2_with fail
          go_quiet (fail)
          go_wp2_with fail
          go_roundw
          case rel => exact ⟨3, -1, by omega, rfl, by go_num, hide (by rw [unhide HN, unhide HM]), (unhide HB).drewN _, (unhide HS).drewN _, (unhide HL).trans (bel0d' _)⟩
          case measure => simp [intOf]
      · by_cases hz : 0 < b2
        · have hz0 : b2 ≠ 0 := by omega
          by_cases hc : s0 * b2 < s2 * b0
          · have HN := hide (mostTo_yes (k := 2) (b0 := b0) (b1 := b1) (b2 := b2) (s0 := s0) (s1 := s1) (s2 := s2) (by rw [unhide HM]; simp [moreB, of3, hz0, hc]))
            clear hz0
            go_wp2_with fail
            go_quiet (fail)
            go_wp2_with fail
            go_roundw
            case rel => exact ⟨3, 2, by omega, rfl, by go_num, hide (by rw [unhide HN]; rfl), (unhide HB).drewN _, (unhide HS).drewN _, (unhide HL).trans (bel0d' _)⟩
            case measure => simp [intOf]
          · have HN := hide (mostTo_no (k := 2) (b0 := b0) (b1 := b1) (b2 := b2) (s0 := s0) (s1 := s1) (s2 := s2) (by rw [unhide HM]; simp [moreB, of3]; intro _; omega))
            clear hz0
            go_wp2_with fail
            go_quiet (fail)
            go_wp2_with fail
            go_roundw
            case rel => exact ⟨3, 0, by omega, rfl, by go_num, hide (by rw [unhide HN, unhide HM]), (unhide HB).drewN _, (unhide HS).drewN _, (unhide HL).trans (bel0d' _)⟩
            case measure => simp [intOf]
        · have hz0 : b2 = 0 := by omega
          have HN := hide (mostTo_no (k := 2) (b0 := b0) (b1 := b1) (b2 := b2) (s0 := s0) (s1 := s1) (s2 := s2) (by rw [unhide HM]; simp [moreB, of3, hz0]))
          rw [hz0] at c2
          clear hz0 hz
          go_wp2_with fail
          go_quiet (fail)
          go_wp2_with fail
          go_roundw
          case rel => exact ⟨3, 0, by omega, rfl, by go_num, hide (by rw [unhide HN, unhide HM]), (unhide HB).drewN _, (unhide HS).drewN _, (unhide HL).trans (bel0d' _)⟩
          case measure => simp [intOf]
      · by_cases hz : 0 < b2
        · have hz0 : b2 ≠ 0 := by omega
          by_cases hc : s1 * b2 < s2 * b1
          · have HN := hide (mostTo_yes (k := 2) (b0 := b0) (b1 := b1) (b2 := b2) (s0 := s0) (s1 := s1) (s2 := s2) (by rw [unhide HM]; simp [moreB, of3, hz0, hc]))
            clear hz0
            go_wp2_with fail
            go_quiet (fail)
            go_wp2_with fail
            go_roundw
            case rel => exact ⟨3, 2, by omega, rfl, by go_num, hide (by rw [unhide HN]; rfl), (unhide HB).drewN _, (unhide HS).drewN _, (unhide HL).trans (bel0d' _)⟩
            case measure => simp [intOf]
          · have HN := hide (mostTo_no (k := 2) (b0 := b0) (b1 := b1) (b2 := b2) (s0 := s0) (s1 := s1) (s2 := s2) (by rw [unhide HM]; simp [moreB, of3]; intro _; omega))
            clear hz0
            go_wp2_with fail
            go_quiet (fail)
            go_wp2_with fail
            go_roundw
            case rel => exact ⟨3, 1, by omega, rfl, by go_num, hide (by rw [unhide HN, unhide HM]), (unhide HB).drewN _, (unhide HS).drewN _, (unhide HL).trans (bel0d' _)⟩
            case measure => simp [intOf]
        · have hz0 : b2 = 0 := by omega
          have HN := hide (mostTo_no (k := 2) (b0 := b0) (b1 := b1) (b2 := b2) (s0 := s0) (s1 := s1) (s2 := s2) (by rw [unhide HM]; simp [moreB, of3, hz0]))
          rw [hz0] at c2
          clear hz0 hz
          go_wp2_with fail
          go_quiet (fail)
          go_wp2_with fail
          go_roundw
          case rel => exact ⟨3, 1, by omega, rfl, by go_num, hide (by rw [unhide HN, unhide HM]), (unhide HB).drewN _, (unhide HS).drewN _, (unhide HL).trans (bel0d' _)⟩
          case measure => simp [intOf]
    · have HM3 : Hid (leftM b0 b1 b2 s0 s1 s2 = M) := hide (unhide HM)
      rcases (show M = -1 ∨ M = 0 ∨ M = 1 ∨ M = 2 from by omega) with rfl | rfl | rfl | rfl
      · have HE := hide (leftR_none (n := n) (m := m) (unhide HM3))
        go_wp2_with fail
        go_ret3
        exact ⟨ret_left (unhide HE).symm, unhide HL⟩
      all_goals
        have HE := hide (leftR_yes (n := n) (m := m) (unhide HOK) (by rw [unhide HM3]; decide))
        rw [unhide HM3] at HE
        go_wp2_with fail
        go_quiet (fail)
        go_wp2_with fail
        go_ret3
        exact ⟨ret_left (unhide HE).symm, (unhide HL).trans (bel0d' _)⟩

end Go.Proofs.Ytnpohiceefkhdao
