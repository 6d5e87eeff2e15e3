/-
  What Crossings answers in the model and in the program: the plain count. At every list and level; nothing that was there is written.
-/
import Derived.Test.YtnpohiceefkhdaoSmall
import Derived.Test.YtnpohiceefkhdaoCrossPure
namespace Go.Proofs.Ytnpohiceefkhdao
open Go.RowKit

set_option maxHeartbeats 1000000 in
theorem specCrossings_any (ad : Option Addr) (len cap : Nat) (zs : List Int) (lv : Int) (w : World) (hr : Row w ad len zs) :
    Calls Try.prog 8 #[.slice ad len cap, .int .i64 lv] w fun e w' => e = .returned (.tuple #[.int .i64 (crossN zs lv), .bool (crossB zs)]) ∧ ∃ n, w' = w.drewN n := by
  have R := hide hr
  have hs := hr.small
  have hz := hr.len_eq
  have HO := hide hr.open_
  clear hr
  by_cases hl : 300 < len
  · have HB := hide (crossB_long (zs := zs) (by omega))
    have HE := hide (crossN_no (lv := lv) (unhide HB))
    have hl' : (300 : Int) < (len : Int) := by omega
    clear hz
    go_enter Try.func8, Try.ntmps8
    go_wp2_with fail
    go_ret2
    exact ⟨ret_ib (unhide HE).symm (unhide HB).symm, 0, rfl⟩
  · have hl' : (len : Int) ≤ 300 := by omega
    cases ha : allB zs (-1000000) 1000000 with
    | false =>
      have HB := hide (crossB_all ha)
      have HE := hide (crossN_no (lv := lv) (unhide HB))
      clear hz
      go_enter Try.func8, Try.ntmps8
      go_wp2_with fail
      refine (l1All_any _ _ _ zs _ _ _ (unhide R)).mono ?_
      rintro e w1 ⟨rfl, n1, rfl⟩
      go_wp2_with fail
      go_ret2
      exact ⟨ret_ib (unhide HE).symm (unhide HB).symm, n1, rfl⟩
    | true =>
      have HB := hide (crossB_true (by omega) ha)
      have HE := hide (crossN_yes (lv := lv) (unhide HB))
      have HZ := hide hz
      clear hz
      go_enter Try.func8, Try.ntmps8
      go_wp2_with fail
      refine (l1All_any _ _ _ zs _ _ _ (unhide R)).mono ?_
      rintro e w1 ⟨rfl, n1, rfl⟩
      go_wp2_with fail
      go_loopw [6, 7] (fun q i wr => ∃ k m : Nat, q = .int .i64 (crossTo zs lv k : Int) ∧ i = .int .i64 ((k : Int) + 1) ∧ (k = 0 ∨ k + 1 ≤ len) ∧ wr = w.drewN m) (fun _ i _ => len + 1 - (intOf i).toNat)
      case atStart => exact ⟨0, n1, rfl, rfl, .inl rfl, rfl⟩
      case round =>
        obtain ⟨k, m, rfl, rfl, hk, rfl⟩ := hrel
        have hle : (crossTo zs lv k : Int) ≤ 300 := by have := crossTo_le zs lv k; omega
        by_cases hlt : k + 1 < len
        · rcases (unhide HO) with ⟨h0, _⟩ | ⟨bb, off, rfl, _, hc⟩
          · omega
          have hc1 := hc k (by omega)
          have hc2 := hc (k + 1) hlt
          have hi1 : (0 : Int) ≤ (k : Int) := by omega
          have hi2 : (k : Int) < (len : Int) := by omega
          have hi3 : (k : Int) + 1 < (len : Int) := by omega
          have hi4 : ((k : Int) + 1).toNat = k + 1 := by omega
          clear hc
          by_cases h1 : nth zs k < lv <;> by_cases h2 : lv ≤ nth zs (k + 1)
          all_goals
            have HN : Hid ((crossTo zs lv (k + 1) : Int) = (crossTo zs lv k : Int) + (if nth zs k < lv ∧ lv ≤ nth zs (k + 1) then 1 else 0)) := hide (by
              first
              | (rw [crossTo_yes h1 h2, if_pos ⟨h1, h2⟩]; simp)
              | (have hn : ¬ (nth zs k < lv ∧ lv ≤ nth zs (k + 1)) := by omega
                 rw [crossTo_no hn, if_neg hn]; simp))
            go_wp2
            go_roundw
            case rel => exact ⟨k + 1, m, by rw [unhide HN]; simp [h1, h2]; try go_num, by go_num, .inr (by omega), rfl⟩
            case measure => simp [intOf]; omega
        · have HF : Hid ((crossTo zs lv k : Int) = crossN zs lv) := hide (by rw [unhide HE, unhide HZ]; congr 2; omega)
          have hi3 : ¬ (k : Int) + 1 < (len : Int) := by omega
          go_wp2
          go_ret2
          exact ⟨ret_ib (unhide HF) (unhide HB).symm, m, rfl⟩

set_option maxHeartbeats 1000000 in
theorem implCrossings_any (ad : Option Addr) (len cap : Nat) (zs : List Int) (lv : Int) (w : World) (hr : Row w ad len zs) :
    Calls Try.prog 10 #[.slice ad len cap, .int .i64 lv] w fun e w' => e = .returned (.tuple #[.int .i64 (crossN zs lv), .bool (crossB zs)]) ∧ ∃ n, w' = w.drewN n := by
  have R := hide hr
  have hs := hr.small
  have hz := hr.len_eq
  have HO := hide hr.open_
  clear hr
  by_cases hl : 300 < len
  · have HB := hide (crossB_long (zs := zs) (by omega))
    have HE := hide (crossN_no (lv := lv) (unhide HB))
    have hl' : (300 : Int) < (len : Int) := by omega
    clear hz
    go_enter Try.func10, Try.ntmps10
    go_wp2_with fail
    go_ret2
    exact ⟨ret_ib (unhide HE).symm (unhide HB).symm, 0, rfl⟩
  · have hl' : (len : Int) ≤ 300 := by omega
    cases ha : allB zs (-1000000) 1000000 with
    | false =>
      have HB := hide (crossB_all ha)
      have HE := hide (crossN_no (lv := lv) (unhide HB))
      clear hz
      go_enter Try.func10, Try.ntmps10
      go_wp2_with fail
      refine (allWithin_any _ _ _ zs _ _ _ (unhide R)).mono ?_
      rintro e w1 ⟨rfl, n1, rfl⟩
      go_wp2_with fail
      go_ret2
      exact ⟨ret_ib (unhide HE).symm (unhide HB).symm, n1, rfl⟩
    | true =>
      have HB := hide (crossB_true (by omega) ha)
      have HE := hide (crossN_yes (lv := lv) (unhide HB))
      have HZ := hide hz
      clear hz
      go_enter Try.func10, Try.ntmps10
      go_wp2_with fail
      refine (allWithin_any _ _ _ zs _ _ _ (unhide R)).mono ?_
      rintro e w1 ⟨rfl, n1, rfl⟩
      go_wp2_with fail
      go_loopw [6, 7] (fun q i wr => ∃ k m : Nat, q = .int .i64 (crossTo zs lv k : Int) ∧ i = .int .i64 ((k : Int) + 1) ∧ (k = 0 ∨ k + 1 ≤ len) ∧ wr = w.drewN m) (fun _ i _ => len + 1 - (intOf i).toNat)
      case atStart => exact ⟨0, n1, rfl, rfl, .inl rfl, rfl⟩
      case round =>
        obtain ⟨k, m, rfl, rfl, hk, rfl⟩ := hrel
        have hle : (crossTo zs lv k : Int) ≤ 300 := by have := crossTo_le zs lv k; omega
        by_cases hlt : k + 1 < len
        · rcases (unhide HO) with ⟨h0, _⟩ | ⟨bb, off, rfl, _, hc⟩
          · omega
          have hc1 := hc k (by omega)
          have hc2 := hc (k + 1) hlt
          have hi1 : (0 : Int) ≤ (k : Int) := by omega
          have hi2 : (k : Int) < (len : Int) := by omega
          have hi3 : (k : Int) + 1 < (len : Int) := by omega
          have hi4 : ((k : Int) + 1).toNat = k + 1 := by omega
          clear hc
          by_cases h1 : nth zs k < lv <;> by_cases h2 : lv ≤ nth zs (k + 1)
          all_goals
            have HN : Hid ((crossTo zs lv (k + 1) : Int) = (crossTo zs lv k : Int) + (if nth zs k < lv ∧ lv ≤ nth zs (k + 1) then 1 else 0)) := hide (by
              first
              | (rw [crossTo_yes h1 h2, if_pos ⟨h1, h2⟩]; simp)
              | (have hn : ¬ (nth zs k < lv ∧ lv ≤ nth zs (k + 1)) := by omega
                 rw [crossTo_no hn, if_neg hn]; simp))
            go_wp2
            go_roundw
            case rel => exact ⟨k + 1, m, by rw [unhide HN]; simp [h1, h2]; try go_num, by go_num, .inr (by omega), rfl⟩
            case measure => simp [intOf]; omega
        · have HF : Hid ((crossTo zs lv k : Int) = crossN zs lv) := hide (by rw [unhide HE, unhide HZ]; congr 2; omega)
          have hi3 : ¬ (k : Int) + 1 < (len : Int) := by omega
          go_wp2
          go_ret2
          exact ⟨ret_ib (unhide HF) (unhide HB).symm, m, rfl⟩

end Go.Proofs.Ytnpohiceefkhdao
