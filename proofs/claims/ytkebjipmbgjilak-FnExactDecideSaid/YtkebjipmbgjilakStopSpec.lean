/-
  What the model's Stops answers: as the plain function. At every argument; nothing that was there is written.
-/
import Derived.Test.YtkebjipmbgjilakRunSpec
namespace Go.Proofs.Ytkebjipmbgjilak
open Go.RowKit

set_option maxHeartbeats 2000000 in
theorem specStops_any (p d s e fail : Int) (w : World) :
    Calls Try.prog 11 #[.agg #[.int .i64 p, .int .i64 d, .int .i64 s, .int .i64 e], .int .i64 fail] w fun x w' => x = .returned (.tuple #[.int .i64 (stopR p d s e fail).1, .bool (stopR p d s e fail).2]) ∧ Below w.heap.size w w' := by
  have R0 := hide (Rn.new (w := w) p d s e 26)
  have B0 := hide (bel1 (w := w) (Obj.cells #[.int .i64 p, .int .i64 d, .int .i64 s, .int .i64 e] 26))
  rcases two (runB p d s e) (inB fail 0 400) with ⟨h, hv⟩ | ⟨h, h', hv⟩ | ⟨h, h', hv⟩
  iterate 2
    have HE := hide (stopR_no (p := p) (d := d) (s := s) (e := e) (fail := fail) hv)
    clear hv
    go_enter Try.func11, Try.ntmps11
    go_wp2_with fail
    refine (specRunnerOk_is _ _ _ _ _ h).mono ?_
    rintro x w1 ⟨rfl, b1⟩
    have B1 := hide ((unhide B0).trans (b1.mono (by simp)))
    clear b1
    go_wp2_with (go_at_call 30; refine (l1In_any _ _ _ _).mono ?_; rintro e w' ⟨rfl, hw⟩; subst w')
    go_ret2
    exact ⟨ret_two (unhide HE).symm, unhide B1⟩
  have HE := hide (stopR_yes (p := p) (d := d) (s := s) (e := e) (fail := fail) hv)
  obtain ⟨hp, hd, hs, he⟩ := runB_facts h
  have hf : 0 ≤ fail ∧ fail ≤ 400 := by simpa [inB] using h'
  clear hv
  go_enter Try.func11, Try.ntmps11
  go_wp2_with fail
  refine (specRunnerOk_is _ _ _ _ _ h).mono ?_
  rintro x w1 ⟨rfl, b1⟩
  have B1 := hide ((unhide B0).trans (b1.mono (by simp)))
  have R1 := (unhide R0).below b1
  have c3 := R1.c3
  have R1 := hide R1
  clear b1
  go_wp2_with (go_at_call 30; refine (l1In_any _ _ _ _).mono ?_; rintro e w' ⟨rfl, hw⟩; subst w')
  clear c3
  clear h h'
  go_loopw [6, 7] (fun sp fa wr => ∃ (S F : Int) (n : Nat), sp = .int .i64 S ∧ fa = .int .i64 F ∧ (0 ≤ S ∧ S ≤ 560 ∧ 0 ≤ F ∧ F ≤ 560 * S) ∧ Hid (stopF p d s e fail n S F = stopF p d s e fail 400 0 0) ∧ fail - S ≤ n ∧ Rn wr w.heap.size p d s e ∧ Below w.heap.size w wr) (fun sp _ _ => (1000 - intOf sp).toNat)
  case atStart => exact ⟨0, 0, 400, rfl, rfl, by omega, hide rfl, by omega, unhide R1, unhide B1⟩
  case round =>
    clear R1 B1 R0 B0
    obtain ⟨S, F, n, rfl, rfl, hb, HD, hn, hrn, hbel⟩ := hrel
    have c0 := hrn.c0
    have c1 := hrn.c1
    have c2 := hrn.c2
    have c3 := hrn.c3
    have HR := hide hrn
    have HB := hide hbel
    clear hrn hbel
    by_cases h1 : fail ≤ S
    · have HZ := hide ((unhide HD).symm.trans (stop_end h1))
      have hg := (grow_bd hp hd (k := e - 1) (by omega)).1
      have HG := hide hg
      clear hg
      go_wp2_with fail
      refine (l3Grow_any p d s e (e - 1) _ hp hd (by omega)).mono ?_
      rintro x w2 ⟨rfl, b2⟩
      have HR2 := hide ((unhide HR).below b2)
      have HB2 := hide ((unhide HB).trans (b2.mono (unhide HB).size))
      have hg := unhide HG
      generalize grow p d (e - 1) = g at *
      clear b2 c0 c1 c2 c3
      go_wp2_with fail
      go_loopw [6, 7] (fun sp fa wr => ∃ (S F : Int) (m : Nat), sp = .int .i64 S ∧ fa = .int .i64 F ∧ (0 ≤ S ∧ S ≤ 800 ∧ 0 ≤ F ∧ F + 800 * S ≤ 2000000) ∧ Hid (stopF p d s e fail 400 0 0 = (brakeF s m S F, true)) ∧ S ≤ m ∧ Rn wr w.heap.size p d s e ∧ Below w.heap.size w wr) (fun sp _ _ => (intOf sp).toNat)
      case atStart => exact ⟨S + g, F + (S + g), 2000, by first | rfl | go_num, by first | rfl | go_num, by omega, HZ, by omega, unhide HR2, unhide HB2⟩
      case round =>
        clear HZ HR2 HB2 HR HB HG hg HD
        obtain ⟨S, F, m, rfl, rfl, hb, HD, hm, hrn, hbel⟩ := hrel
        have c2 := hrn.c2
        have HR := hide hrn
        have HB := hide hbel
        clear hrn hbel
        by_cases h1 : S = 0
        · subst h1
          have HZ := hide ((unhide HD).trans (by rw [brake_end (Int.le_refl 0)]))
          go_wp2
          go_ret2
          exact ⟨ret_two (by rw [unhide HE, unhide HZ]), unhide HB⟩
        · obtain ⟨m', hm1, hm2⟩ := brake_go (f := F) hs.1 (show 0 < S by omega) hm
          have HM := hide ((unhide HD).trans (by rw [hm1]))
          have hS0 : 0 < S := by omega
          have hls := less_bd hs.1 (show 0 < S by omega)
          have HLS := hide hls
          clear hm1
          by_cases h2 : S < s
          · have hle : less s S = 0 := by unfold less; rw [if_pos h2]
            rw [hle] at hm2 HM
            clear hle hls
            go_wp2_with fail
            refine (l1Max_yes _ _ _ (by omega)).mono ?_
            rintro x w' ⟨rfl, hw⟩
            subst w'
            go_wp2
            go_roundw
            case rel => exact ⟨0, F + 0, m', by first | rfl | go_num, by first | rfl | go_num, by omega, HM, hm2, unhide HR, unhide HB⟩
            case measure => simp [intOf]; omega
          · have hle : less s S = S - s := by unfold less; rw [if_neg h2]
            rw [hle] at hm2 HM
            clear hle hls
            go_wp2_with fail
            refine (l1Max_no _ _ _ (by omega)).mono ?_
            rintro x w' ⟨rfl, hw⟩
            subst w'
            go_wp2
            go_roundw
            case rel => exact ⟨S - s, F + (S - s), m', by first | rfl | go_num, by first | rfl | go_num, by omega, HM, hm2, unhide HR, unhide HB⟩
            case measure => simp [intOf]; omega
    · have hg := (grow_bd hp hd (k := e) (by omega)).1
      have HG := hide hg
      clear hg
      have h1' : S < fail := by omega
      go_wp2_with fail
      refine (l3Grow_any p d s e e _ hp hd (by omega)).mono ?_
      rintro x w2 ⟨rfl, b2⟩
      have HR2 := hide ((unhide HR).below b2)
      have HB2 := hide ((unhide HB).trans (b2.mono (unhide HB).size))
      have hg := unhide HG
      by_cases h0 : grow p d e = 0
      · have HZ := hide ((unhide HD).symm.trans (stop_no (by omega) hn h0))
        rw [h0]
        clear b2 h0
        go_wp2
        go_ret2
        exact ⟨ret_two (by rw [unhide HE, unhide HZ]), unhide HB2⟩
      · obtain ⟨m, hm1, hm2⟩ := stop_go (p := p) (d := d) (e := e) (st := s) (f := F) (by omega) hn (by omega)
        have HM := hide (hm1.symm.trans (unhide HD))
        have hg0 : (grow p d e == 0) = false := by simpa using h0
        clear hm1 b2
        generalize grow p d e = g at *
        go_wp2
        go_roundw
        case rel => exact ⟨S + g, F + (S + g), m, by go_num, by go_num, by omega, HM, hm2, unhide HR2, unhide HB2⟩
        case measure => simp [intOf]; omega

end Go.Proofs.Ytkebjipmbgjilak
