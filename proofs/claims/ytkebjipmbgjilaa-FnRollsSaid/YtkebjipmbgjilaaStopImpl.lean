/-
  What the program's Stops answers: as the plain function. At every argument; nothing that was there is written.
-/
import Derived.Test.YtkebjipmbgjilaaRunImpl
namespace Go.Proofs.Ytkebjipmbgjilaa
open Go.RowKit

/-- Where the program's loop stands: still growing, or braked. -/
inductive StopAt (p d st e fail : Int) : Bool → Int → Int → Prop
  | up (n : Nat) (S F : Int) (h : stopF p d st e fail n S F = stopF p d st e fail 400 0 0) (hn : fail - S ≤ n) (hb : 0 ≤ S ∧ S ≤ 560 ∧ 0 ≤ F ∧ F ≤ 560 * S) : StopAt p d st e fail false S F
  | down (m : Nat) (S F : Int) (h : stopF p d st e fail 400 0 0 = (brakeF st m S F, true)) (hm : S ≤ m) (hb : 0 ≤ S ∧ S ≤ 800 ∧ 0 ≤ F ∧ F + 800 * S ≤ 2000000) : StopAt p d st e fail true S F

def stopM (fl : Value) (s : Int) : Nat := match fl with
  | .bool true => s.toNat
  | _ => (3000 - s).toNat

set_option maxHeartbeats 2000000 in
theorem implStops_any (p d s e fail : Int) (w : World) :
    Calls Try.prog 34 #[.agg #[.int .i64 p, .int .i64 d, .int .i64 s, .int .i64 e], .int .i64 fail] w fun x w' => x = .returned (.tuple #[.int .i64 (stopR p d s e fail).1, .bool (stopR p d s e fail).2]) ∧ Below w.heap.size w w' := by
  have R0 := hide (Rn.new (w := w) p d s e 75)
  have B0 := hide (bel1 (w := w) (Obj.cells #[.int .i64 p, .int .i64 d, .int .i64 s, .int .i64 e] 75))
  rcases two (runB p d s e) (inB fail 0 400) with ⟨h, hv⟩ | ⟨h, h', hv⟩ | ⟨h, h', hv⟩
  iterate 2
    have HE := hide (stopR_no (p := p) (d := d) (s := s) (e := e) (fail := fail) hv)
    clear hv
    go_enter Try.func34, Try.ntmps34
    go_wp2_with fail
    go_step3
    go_wp2_with fail
    refine (implRunnerOk_is _ _ _ _ _ h).mono ?_
    rintro x w1 ⟨rfl, b1⟩
    have B1 := hide ((unhide B0).trans (b1.mono (by simp)))
    clear b1
    go_wp2_with (go_at_call 52; refine (within_any _ _ _ _).mono ?_; rintro e w' ⟨rfl, hw⟩; subst w')
    try rw [Exit.noGoto_ret]
    go_ret2
    exact ⟨ret_two (unhide HE).symm, unhide B1⟩
  have HE := hide (stopR_yes (p := p) (d := d) (s := s) (e := e) (fail := fail) hv)
  obtain ⟨hp, hd, hs, he⟩ := runB_facts h
  have hf : 0 ≤ fail ∧ fail ≤ 400 := by simpa [inB] using h'
  clear hv
  go_enter Try.func34, Try.ntmps34
  go_wp2_with fail
  go_step3
  go_wp2_with fail
  refine (implRunnerOk_is _ _ _ _ _ h).mono ?_
  rintro x w1 ⟨rfl, b1⟩
  have B1 := hide ((unhide B0).trans (b1.mono (by simp)))
  have R1 := (unhide R0).below b1
  have c3 := R1.c3
  have R1 := hide R1
  clear b1
  go_wp2_with (go_at_call 52; refine (within_any _ _ _ _).mono ?_; rintro e w' ⟨rfl, hw⟩; subst w')
  go_step3
  go_wp2_with fail
  clear c3
  clear h h'
  go_loopw [6, 7, 8] (fun sp fa fl wr => ∃ (S F : Int) (b : Bool), sp = .int .i64 S ∧ fa = .int .i64 F ∧ fl = .bool b ∧ StopAt p d s e fail b S F ∧ Rn wr w.heap.size p d s e ∧ Below w.heap.size w wr) (fun sp _ fl _ => stopM fl (intOf sp))
  case atStart => exact ⟨0, 0, false, rfl, rfl, rfl, .up 400 0 0 rfl (by omega) (by omega), unhide R1, unhide B1⟩
  case round =>
    clear R1 B1 R0 B0
    obtain ⟨S, F, b, rfl, rfl, rfl, hst, hrn, hbel⟩ := hrel
    have c0 := hrn.c0
    have c1 := hrn.c1
    have c2 := hrn.c2
    have c3 := hrn.c3
    have HR := hide hrn
    have HB := hide hbel
    clear hrn hbel
    cases hst with
    | down m _ _ h hm hb =>
      have HD := hide h
      clear h
      by_cases h1 : S = 0
      · subst h1
        have HZ := hide ((unhide HD).trans (by rw [brake_end (Int.le_refl 0)]))
        go_wp2
        try rw [Exit.noGoto_ret]
        go_ret2
        exact ⟨ret_two (by rw [unhide HE, unhide HZ]), unhide HB⟩
      · obtain ⟨m', hm1, hm2⟩ := brake_go (f := F) hs.1 (show 0 < S by omega) hm
        have HM := hide ((unhide HD).trans (by rw [hm1]))
        have hS0 : (S == 0) = false := by simpa using h1
        have hls := less_bd hs.1 (show 0 < S by omega)
        have HLS := hide hls
        clear hm1
        by_cases h2 : S < s
        · have hle : less s S = 0 := by unfold less; rw [if_pos h2]
          rw [hle] at hm2 HM
          clear hle hls
          go_wp2
          go_roundw
          case rel => exact ⟨0, F + 0, true, by first | rfl | go_num, by first | rfl | go_num, rfl, .down m' 0 (F + 0) (unhide HM) hm2 (by omega), unhide HR, unhide HB⟩
          case measure => simp [intOf, stopM]; omega
        · have hle : less s S = S - s := by unfold less; rw [if_neg h2]
          rw [hle] at hm2 HM
          clear hle hls
          go_wp2
          go_roundw
          case rel => exact ⟨S - s, F + (S - s), true, by first | rfl | go_num, by first | rfl | go_num, rfl, .down m' (S - s) (F + (S - s)) (unhide HM) hm2 (by omega), unhide HR, unhide HB⟩
          case measure => simp [intOf, stopM]; omega
    | up n _ _ h hn hb =>
      have HD := hide h
      clear h
      by_cases h1 : fail ≤ S
      · have HZ := hide ((unhide HD).symm.trans (stop_end h1))
        have hg := (grow_bd hp hd (k := e - 1) (by omega)).1
        have HG := hide hg
        clear hg
        go_wp2_with fail
        refine (gain_any p d s e (e - 1) _ hp hd (by omega)).mono ?_
        rintro x w2 ⟨rfl, b2⟩
        have HR2 := hide ((unhide HR).below b2)
        have HB2 := hide ((unhide HB).trans (b2.mono (unhide HB).size))
        have hg := unhide HG
        generalize grow p d (e - 1) = g at *
        clear b2 c0 c1 c2 c3
        go_wp2
        go_roundw
        case rel => exact ⟨S + g, F + (S + g), true, by go_num, by go_num, rfl, .down 2000 (S + g) (F + (S + g)) (unhide HZ) (by omega) (by omega), unhide HR2, unhide HB2⟩
        case measure => simp [intOf, stopM]; omega
      · have hg := (grow_bd hp hd (k := e) (by omega)).1
        have HG := hide hg
        clear hg
        go_wp2_with fail
        refine (gain_any p d s e e _ hp hd (by omega)).mono ?_
        rintro x w2 ⟨rfl, b2⟩
        have HR2 := (unhide HR).below b2
        have HB2 := hide ((unhide HB).trans (b2.mono (unhide HB).size))
        have hg := unhide HG
        have c0 := HR2.c0
        have c1 := HR2.c1
        have c2 := HR2.c2
        have c3 := HR2.c3
        have HR2 := hide HR2
        by_cases h0 : grow p d e = 0
        · have HZ := hide ((unhide HD).symm.trans (stop_no (by omega) hn h0))
          rw [h0]
          clear b2 h0
          go_wp2
          try rw [Exit.noGoto_ret]
          go_ret2
          exact ⟨ret_two (by rw [unhide HE, unhide HZ]), unhide HB2⟩
        · obtain ⟨m, hm1, hm2⟩ := stop_go (p := p) (d := d) (e := e) (st := s) (f := F) (by omega) hn (by omega)
          have HM := hide (hm1.symm.trans (unhide HD))
          have hg0 : (grow p d e == 0) = false := by simpa using h0
          clear hm1 b2
          go_wp2_with fail
          refine (gain_any p d s e e _ hp hd (by omega)).mono ?_
          rintro x w3 ⟨rfl, b3⟩
          have HR3 := hide ((unhide HR2).below b3)
          have HB3 := hide ((unhide HB2).trans (b3.mono (unhide HB2).size))
          clear b3
          generalize grow p d e = g at *
          go_wp2
          go_roundw
          case rel => exact ⟨S + g, F + (S + g), false, by go_num, by go_num, rfl, .up m (S + g) (F + (S + g)) (unhide HM) hm2 (by omega), unhide HR3, unhide HB3⟩
          case measure => simp [intOf, stopM]; omega

end Go.Proofs.Ytkebjipmbgjilaa
