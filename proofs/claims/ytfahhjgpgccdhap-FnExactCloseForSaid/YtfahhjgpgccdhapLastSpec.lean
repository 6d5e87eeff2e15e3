/-
  What the model's Lasts answers: as the plain function. At every battery and list of draws; nothing that was there is written.
-/
import Derived.Test.YtfahhjgpgccdhapSmall
import Derived.Test.YtfahhjgpgccdhapBlk
import Derived.Test.YtfahhjgpgccdhapLastPure
namespace Go.Proofs.Ytfahhjgpgccdhap
open Go.RowKit

theorem l1MinB_any (a b : Int) (w : World) :
    Calls Try.prog 51 #[.int .i64 a, .int .i64 b] w fun e w' => e = .returned (.int .i64 (min a b)) ∧ w' = w := by
  by_cases h : a < b
  · have HE : Hid (min a b = a) := hide (by omega)
    go_enter Try.func51, Try.ntmps51
    go_wp2
    go_ret
    exact ⟨ret_int (unhide HE).symm, rfl⟩
  · have HE : Hid (min a b = b) := hide (by omega)
    go_enter Try.func51, Try.ntmps51
    go_wp2
    go_ret
    exact ⟨ret_int (unhide HE).symm, rfl⟩
theorem l1MinB_is {c : Int} (a b : Int) (w : World) (h : min a b = c) :
    Calls Try.prog 51 #[.int .i64 a, .int .i64 b] w fun e w' => e = .returned (.int .i64 c) ∧ w' = w := by
  subst h; exact l1MinB_any a b w

set_option maxRecDepth 20000 in
set_option maxHeartbeats 2000000 in
theorem specLasts_any (c m l : Int) (ad : Option Addr) (len cap : Nat) (zs : List Int) (w : World) (hr : Row w ad len zs) :
    Calls Try.prog 21 #[.agg #[.int .i64 c, .int .i64 m, .int .i64 l], .slice ad len cap] w fun x w' => x = .returned (.tuple #[.int .i64 (lastT c m l zs).1, .int .i64 (lastT c m l zs).2, .bool (lastB c m l zs)]) ∧ Below w.heap.size w w' := by
  have R := hide hr
  have hs := hr.small
  have hz := hide hr.len_eq
  clear hr
  have R0 := hide ((unhide R).alloc (Obj.cells #[.int .i64 c, .int .i64 m, .int .i64 l] 49))
  have K0 := hide (Blk.new (w := w) [.int .i64 c, .int .i64 m, .int .i64 l] 49)
  have B0 := hide (bel1 (w := w) (Obj.cells #[.int .i64 c, .int .i64 m, .int .i64 l] 49))
  by_cases hok : 0 ≤ c ∧ c ≤ m ∧ m ≤ 1000000 ∧ 0 ≤ l ∧ l ≤ 100 ∧ zs.length ≤ 300 ∧ allB zs (-100000) 100000 = true
  · have HB := hide (lastB_yes hok)
    have HE := hide (lastT_yes (unhide HB))
    obtain ⟨f1, f2, f3, f4, f5, f6, ha⟩ := hok
    rw [unhide hz] at f6
    have HA := hide ha
    have i1 : inB c 0 m = true := by simp [inB, f1, f2]
    have i2 : inB l 0 100 = true := by simp [inB, f4, f5]
    have f6' : ¬ (300 : Int) < (len : Int) := by omega
    clear f6
    go_enter Try.func21, Try.ntmps21
    go_wp2_with (go_at_call 32; refine (l1In_any _ _ _ _).mono ?_; rintro e w' ⟨rfl, hw⟩; subst w')
    refine (l1All_any _ _ _ zs _ _ _ (unhide R0)).mono ?_
    rintro e w2 ⟨rfl, n1, hw2⟩
    rw [ha]
    have B2 := hide ((unhide B0).trans ((bel0d (w := w.alloc (Obj.cells #[.int .i64 c, .int .i64 m, .int .i64 l] 49)) n1).mono (unhide B0).size))
    have k2 := (unhide K0).drewN n1
    rw [← hw2] at B2 k2
    have c0 : w2.cell? ⟨w.heap.size, 0, none⟩ = some (.int .i64 c) := k2.c 0 (by simp)
    have K2 := hide k2
    clear hw2 k2 K0 B0 R0 ha i1 i2
    go_wp2_with fail
    go_loopw [7, 8] (fun dv i wr => ∃ (k : Nat) (d : Int), dv = .int .i64 d ∧ i = .int .i64 (k : Int) ∧ k ≤ len ∧ (0 ≤ d ∧ d ≤ m) ∧ Hid (lastR m l (zs.drop k) k d = lastR m l zs 0 c) ∧ Blk wr w.heap.size [.int .i64 c, .int .i64 m, .int .i64 l] ∧ Below w.heap.size w wr) (fun _ i _ => len - (intOf i).toNat)
    case atStart => exact ⟨0, c, rfl, rfl, Nat.zero_le _, ⟨f1, f2⟩, hide (by simp), unhide K2, unhide B2⟩
    case round =>
      clear K2 B2
      obtain ⟨k, d, rfl, rfl, hk, hd, HD, hck, hbel⟩ := hrel
      have c1 : wr.cell? ⟨w.heap.size, 1, none⟩ = some (.int .i64 m) := hck.c 1 (by simp)
      have c2 : wr.cell? ⟨w.heap.size, 2, none⟩ = some (.int .i64 l) := hck.c 2 (by simp)
      have HR := hide hck
      have HBL := hide hbel
      clear hck hbel c0
      by_cases hlt : k < len
      · have hlt' : (k : Int) < (len : Int) := by omega
        have hi0 : (0 : Int) ≤ (k : Int) := by omega
        rcases (unhide R).open_ with ⟨h0, _⟩ | ⟨bb, off, rfl, _, hc⟩
        · omega
        have e0 := hc k hlt
        have e0 := ((unhide HBL).cell (block_lt_of_cell e0)).trans e0
        have hx := allB_at (unhide HA) (k := k) (by rw [unhide hz]; exact hlt)
        clear hc
        by_cases hs : min m (d - nth zs k - l) < 0
        · have HF := hide ((unhide HD).symm.trans (lastR_stop (m := m) (l := l) (c := d) (by rw [unhide hz]; exact hlt) hs))
          go_wp2_with fail
          go_quiet ((go_at_call 51; exact Calls.quiet_of_same (l1MinB_any _ _ _)))
          go_wp2
          go_ret3
          exact ⟨ret_iib (by rw [unhide HE, unhide HF]) (by rw [unhide HE, unhide HF]) (unhide HB).symm, (unhide HBL).trans (bel0d' _)⟩
        · have HF := hide ((unhide HD).symm.trans (lastR_go (m := m) (l := l) (c := d) (by rw [unhide hz]; exact hlt) hs))
          have HBD : Hid (0 ≤ min m (d - nth zs k - l) ∧ min m (d - nth zs k - l) ≤ m) := hide (by omega)
          have hs' : ¬ min m (d - nth zs k - l) < 0 := hs
          go_wp2_with fail
          go_quiet ((go_at_call 51; exact Calls.quiet_of_same (l1MinB_any _ _ _)))
          go_wp2
          go_roundw
          case rel => exact ⟨k + 1, min m (d - nth zs k - l), rfl, by go_num, by omega, unhide HBD, hide (unhide HF).symm, (unhide HR).drewN _, (unhide HBL).trans (bel0d' _)⟩
          case measure => simp [intOf]; omega
      · have HF := hide ((unhide HD).symm.trans (lastR_end (m := m) (l := l) (c := d) (by rw [unhide hz]; exact hlt)))
        have hlt' : ¬ (k : Int) < (len : Int) := by omega
        have HK : Hid (len = k) := hide (by omega)
        go_wp2
        go_ret3
        exact ⟨ret_iib (by rw [unhide HE, unhide HF, unhide HK]) (by rw [unhide HE, unhide HF]) (unhide HB).symm, unhide HBL⟩
  · have HB := hide (lastB_no hok)
    have HE := hide (lastT_no (unhide HB))
    cases i1 : inB c 0 m with
    | false =>
      clear hok
      go_enter Try.func21, Try.ntmps21
      go_wp2_with (go_at_call 32; refine (l1In_any _ _ _ _).mono ?_; rintro e w' ⟨rfl, hw⟩; subst w')
      go_ret3
      exact ⟨ret_iib (by rw [unhide HE]) (by rw [unhide HE]) (unhide HB).symm, unhide B0⟩
    | true =>
      by_cases f3 : m ≤ 1000000
      · cases i2 : inB l 0 100 with
        | false =>
          clear hok
          go_enter Try.func21, Try.ntmps21
          go_wp2_with (go_at_call 32; refine (l1In_any _ _ _ _).mono ?_; rintro e w' ⟨rfl, hw⟩; subst w')
          go_ret3
          exact ⟨ret_iib (by rw [unhide HE]) (by rw [unhide HE]) (unhide HB).symm, unhide B0⟩
        | true =>
          by_cases hl : 300 < len
          · have hl' : (300 : Int) < (len : Int) := by omega
            clear hok hl
            go_enter Try.func21, Try.ntmps21
            go_wp2_with (go_at_call 32; refine (l1In_any _ _ _ _).mono ?_; rintro e w' ⟨rfl, hw⟩; subst w')
            go_ret3
            exact ⟨ret_iib (by rw [unhide HE]) (by rw [unhide HE]) (unhide HB).symm, unhide B0⟩
          · have ha : allB zs (-100000) 100000 = false := by
              cases ha : allB zs (-100000) 100000 with
              | false => rfl
              | true => exact absurd ⟨(in_facts i1).1, (in_facts i1).2, f3, (in_facts i2).1, (in_facts i2).2, by rw [unhide hz]; omega, ha⟩ hok
            have hl' : ¬ (300 : Int) < (len : Int) := by omega
            clear hok hl
            go_enter Try.func21, Try.ntmps21
            go_wp2_with (go_at_call 32; refine (l1In_any _ _ _ _).mono ?_; rintro e w' ⟨rfl, hw⟩; subst w')
            refine (l1All_any _ _ _ zs _ _ _ (unhide R0)).mono ?_
            rintro e w2 ⟨rfl, n1, hw2⟩
            rw [ha]
            have B2 := hide ((unhide B0).trans ((bel0d (w := w.alloc (Obj.cells #[.int .i64 c, .int .i64 m, .int .i64 l] 49)) n1).mono (unhide B0).size))
            rw [← hw2] at B2
            clear hw2
            go_wp2_with fail
            go_ret3
            exact ⟨ret_iib (by rw [unhide HE]) (by rw [unhide HE]) (unhide HB).symm, unhide B2⟩
      · have f3' : 1000000 < m := by omega
        clear hok f3
        go_enter Try.func21, Try.ntmps21
        go_wp2_with (go_at_call 32; refine (l1In_any _ _ _ _).mono ?_; rintro e w' ⟨rfl, hw⟩; subst w')
        go_ret3
        exact ⟨ret_iib (by rw [unhide HE]) (by rw [unhide HE]) (unhide HB).symm, unhide B0⟩

end Go.Proofs.Ytfahhjgpgccdhap
