/-
  What the program's Lasts answers: as the plain function. At every battery and list of draws; nothing that was there is written.
-/
import Derived.Test.YtdeodlinjilehapSmall
import Derived.Test.YtdeodlinjilehapBlk
import Derived.Test.YtdeodlinjilehapLastPure
namespace Go.Proofs.Ytdeodlinjilehap
open Go.RowKit

set_option maxHeartbeats 1000000 in
theorem batteryOk_any (c m l : Int) (w : World) :
    Calls Try.prog 17 #[.agg #[.int .i64 c, .int .i64 m, .int .i64 l]] w fun x w' => x = .returned (.bool (batB c m l)) ∧ Below w.heap.size w w' := by
  rcases three (inB m 0 1000000) (inB c 0 m) (inB l 0 100) with ⟨h, _⟩ | ⟨h, h', _⟩ | ⟨h, h', h'', _⟩ | ⟨h, h', h'', _⟩
  all_goals
    have HE : Hid (batB c m l = (inB m 0 1000000 && inB c 0 m && inB l 0 100)) := hide rfl
    go_enter Try.func17, Try.ntmps17
    go_wp2_with (go_at_call 21; refine (within_any _ _ _ _).mono ?_; rintro e w' ⟨rfl, hw⟩; subst w')
    go_ret
    exact ⟨ret_bool (by rw [unhide HE]; simp [*]), bel1 _⟩
theorem batteryOk_is {b : Bool} (c m l : Int) (w : World) (hc : batB c m l = b) :
    Calls Try.prog 17 #[.agg #[.int .i64 c, .int .i64 m, .int .i64 l]] w fun x w' => x = .returned (.bool b) ∧ Below w.heap.size w w' := by
  subst hc; exact batteryOk_any c m l w

set_option maxRecDepth 20000 in
set_option maxHeartbeats 2000000 in
theorem implLasts_any (c m l : Int) (ad : Option Addr) (len cap : Nat) (zs : List Int) (w : World) (hr : Row w ad len zs) :
    Calls Try.prog 8 #[.agg #[.int .i64 c, .int .i64 m, .int .i64 l], .slice ad len cap] w fun x w' => x = .returned (.tuple #[.int .i64 (lastT c m l zs).1, .int .i64 (lastT c m l zs).2, .bool (lastB c m l zs)]) ∧ Below w.heap.size w w' := by
  have R := hide hr
  have HS : Hid (len ≤ 9223372036854775807) := hide hr.small
  have hz := hide hr.len_eq
  clear hr
  have R0 := hide (Blk.new (w := w) [.int .i64 c, .int .i64 m, .int .i64 l] 27)
  have B0 := hide (bel1 (w := w) (Obj.cells #[.int .i64 c, .int .i64 m, .int .i64 l] 27))
  cases h : batB c m l with
  | false =>
    have HB := hide (lastB_bat (zs := zs) h)
    have HE := hide (lastT_no (unhide HB))
    go_enter Try.func8, Try.ntmps8
    go_wp2_with fail
    refine (batteryOk_is _ _ _ _ h).mono ?_
    rintro x w1 ⟨rfl, b1⟩
    have B1 := hide ((unhide B0).trans (b1.mono (by simp)))
    clear b1
    go_wp2_with fail
    go_ret3
    exact ⟨ret_iib (by rw [unhide HE]) (by rw [unhide HE]) (unhide HB).symm, unhide B1⟩
  | true =>
    have HBT := hide h
    by_cases hl : 300 < len
    · have hl' : (300 : Int) < (len : Int) := by omega
      have HB := hide (lastB_long (c := c) (m := m) (l := l) (zs := zs) (by rw [unhide hz]; exact hl))
      have HE := hide (lastT_no (unhide HB))
      have hs := unhide HS
      go_enter Try.func8, Try.ntmps8
      go_wp2_with fail
      refine (batteryOk_is _ _ _ _ h).mono ?_
      rintro x w1 ⟨rfl, b1⟩
      have B1 := hide ((unhide B0).trans (b1.mono (by simp)))
      clear b1
      go_wp2_with fail
      go_ret3
      exact ⟨ret_iib (by rw [unhide HE]) (by rw [unhide HE]) (unhide HB).symm, unhide B1⟩
    · have hl' : (len : Int) ≤ 300 := by omega
      have HL := hide hl
      clear hl
      cases ha : allB zs (-100000) 100000 with
      | false =>
        have HB := hide (lastB_all (c := c) (m := m) (l := l) ha)
        have HE := hide (lastT_no (unhide HB))
        go_enter Try.func8, Try.ntmps8
        go_wp2_with fail
        refine (batteryOk_is _ _ _ _ h).mono ?_
        rintro x w1 ⟨rfl, b1⟩
        have R1 := hide ((unhide R).below ((unhide B0).trans (b1.mono (by simp))))
        have B1 := hide ((unhide B0).trans (b1.mono (by simp)))
        clear b1
        go_wp2_with fail
        refine (allWithin_any _ _ _ zs _ _ _ (unhide R1)).mono ?_
        rintro e w2 ⟨rfl, n1, rfl⟩
        have B2 := hide ((unhide B1).trans ((bel0d (w := w1) n1).mono (unhide B1).size))
        go_wp2_with fail
        go_ret3
        exact ⟨ret_iib (by rw [unhide HE]) (by rw [unhide HE]) (unhide HB).symm, unhide B2⟩
      | true =>
        have HB := hide (lastB_true (unhide HBT) (by rw [unhide hz]; have := unhide HL; omega) ha)
        have HE := hide (lastT_yes (unhide HB))
        have HA := hide ha
        obtain ⟨f1, f2, f3, f4, f5⟩ := batB_facts (unhide HBT)
        go_enter Try.func8, Try.ntmps8
        go_wp2_with fail
        refine (batteryOk_is _ _ _ _ h).mono ?_
        rintro x w1 ⟨rfl, b1⟩
        have R1 := hide ((unhide R).below ((unhide B0).trans (b1.mono (by simp))))
        have B1 := hide ((unhide B0).trans (b1.mono (by simp)))
        have K1 := hide ((unhide R0).below b1)
        clear b1
        go_wp2_with fail
        refine (allWithin_any _ _ _ zs _ _ _ (unhide R1)).mono ?_
        rintro e w2 ⟨rfl, n1, hw2⟩
        rw [ha]
        have B2 := hide ((unhide B1).trans ((bel0d (w := w1) n1).mono (unhide B1).size))
        have K2 := hide ((unhide K1).drewN n1)
        rw [← hw2] at B2 K2
        clear hw2 K1 B1 R1 h ha
        go_wp2_with fail
        go_loopw [25] (fun i wr => ∃ (k : Nat) (d : Int), i = .int .i64 (k : Int) ∧ k ≤ len ∧ (0 ≤ d ∧ d ≤ m) ∧ Hid (lastR m l (zs.drop k) k d = lastR m l zs 0 c) ∧ Blk wr w.heap.size [.int .i64 d, .int .i64 m, .int .i64 l] ∧ Below w.heap.size w wr) (fun i _ => len - (intOf i).toNat)
        case atStart => exact ⟨0, c, rfl, Nat.zero_le _, ⟨f1, f2⟩, hide (by simp), unhide K2, unhide B2⟩
        case round =>
          clear R0 B0 K2 B2
          obtain ⟨k, d, rfl, hk, hd, HD, hck, hbel⟩ := hrel
          have c0 : wr.cell? ⟨w.heap.size, 0, none⟩ = some (.int .i64 d) := hck.c 0 (by simp)
          have c1 : wr.cell? ⟨w.heap.size, 1, none⟩ = some (.int .i64 m) := hck.c 1 (by simp)
          have c2 : wr.cell? ⟨w.heap.size, 2, none⟩ = some (.int .i64 l) := hck.c 2 (by simp)
          have z0 : wr.frozen? ⟨w.heap.size, 0, none⟩ = false := hck.f 0 (by simp)
          have HR := hide hck
          have HBL := hide hbel
          clear hck hbel
          by_cases hlt : k < len
          · have hlt' : (k : Int) < (len : Int) := by omega
            have hi0 : (0 : Int) ≤ (k : Int) := by omega
            rcases (unhide R).open_ with ⟨h0, _⟩ | ⟨bb, off, rfl, _, hc⟩
            · omega
            have e0 := hc k hlt
            have e0 := ((unhide HBL).cell (block_lt_of_cell e0)).trans e0
            have hx := allB_at (unhide HA) (k := k) (by rw [unhide hz]; exact hlt)
            clear hc
            by_cases hs : min m (d - nth zs k - l) < 0
            · have HF := hide ((unhide HD).symm.trans (lastR_stop (m := m) (l := l) (c := d) (by rw [unhide hz]; exact hlt) hs))
              have hs' : d - nth zs k - l < 0 := by omega
              have hs3 : ¬ m < d - nth zs k - l := by omega
              go_wp2
              go_quiet (fail)
              go_wp2
              go_ret3
              exact ⟨ret_iib (by rw [unhide HE, unhide HF]) (by rw [unhide HE, unhide HF]) (unhide HB).symm, (unhide HBL).trans (bel0d' _)⟩
            · have HF := hide ((unhide HD).symm.trans (lastR_go (m := m) (l := l) (c := d) (by rw [unhide hz]; exact hlt) hs))
              have hs' : ¬ d - nth zs k - l < 0 := by omega
              have HM : Hid (min (d - nth zs k - l) m = if m < d - nth zs k - l then m else d - nth zs k - l) := hide (by split <;> omega)
              have HK2 := hide ((unhide HR).set 0 (by simp) (.int .i64 (min (d - nth zs k - l) m)))
              have HB2 := hide ((unhide HBL).setCell (p := ⟨w.heap.size, 0, none⟩) (Nat.le_refl _) (.int .i64 (min (d - nth zs k - l) m)))
              rw [unhide HM] at HK2 HB2
              by_cases hm : m < d - nth zs k - l
              · rw [if_pos hm] at HK2 HB2
                have HM2 : Hid (min m (d - nth zs k - l) = m) := hide (by omega)
                have hm0 : ¬ m < 0 := by omega
                clear hs' hs
                go_wp2
                go_roundw
                case rel => exact ⟨k + 1, m, by go_num, by omega, by omega, hide (by rw [unhide HM2] at HF; exact (unhide HF).symm), unhide HK2, unhide HB2⟩
                case measure => simp [intOf]; omega
              · rw [if_neg hm] at HK2 HB2
                have HM2 : Hid (min m (d - nth zs k - l) = d - nth zs k - l) := hide (by omega)
                clear hs
                go_wp2
                go_roundw
                case rel => exact ⟨k + 1, d - nth zs k - l, by go_num, by omega, by omega, hide (by rw [unhide HM2] at HF; exact (unhide HF).symm), unhide HK2, unhide HB2⟩
                case measure => simp [intOf]; omega
          · have HF := hide ((unhide HD).symm.trans (lastR_end (m := m) (l := l) (c := d) (by rw [unhide hz]; exact hlt)))
            have hlt' : ¬ (k : Int) < (len : Int) := by omega
            have HK : Hid (len = k) := hide (by omega)
            go_wp2
            go_quiet (fail)
            go_wp2
            go_ret3
            exact ⟨ret_iib (by rw [unhide HE, unhide HF, unhide HK]) (by rw [unhide HE, unhide HF]) (unhide HB).symm, (unhide HBL).trans (bel0d' _)⟩

end Go.Proofs.Ytdeodlinjilehap
