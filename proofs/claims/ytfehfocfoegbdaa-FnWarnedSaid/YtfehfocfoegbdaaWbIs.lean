/-
  What the program's small functions of chapter 14 answer: texts that rise, the names of rules, whether a rule by itself is so, whether it is quiet in a phase. Nothing that was there is written.
-/
import Derived.Test.YtfehfocfoegbdaaMWrOrd
import Derived.Test.YtfehfocfoegbdaaMWrLou
import Derived.Test.YtfehfocfoegbdaaMStrTo
import Derived.Test.YtfehfocfoegbdaaMAscS
namespace Go.Proofs.Ytfehfocfoegbdaa
open Go.RowKit

set_option maxRecDepth 20000 in
set_option maxHeartbeats 1000000 in
theorem namesOf_any (ad : Option Addr) (len cap : Nat) (rs : List Wr) (w : World) (hr : RowW w ad len rs) (hl : len ≤ 30) :
    Calls Try.prog 25 #[.slice ad len cap] w fun e w' => ∃ g c1, e = .returned (.slice (some ⟨g, 0, none⟩) (wrN rs).length c1) ∧ OwnE 1 stC w' w.heap.size 9 (.slice (some ⟨g, 0, none⟩) (wrN rs).length c1) (wrN rs) ∧ Below w.heap.size w w' := by
  have hz := hr.len_eq
  have HO := hide hr.open_
  have KJ : Hid (StW w (w.alloc (Obj.cells #[] 9)) w.heap.size 0 0 []) := hide ⟨stE_none (Nat.le_refl _), rfl, bel1 _⟩
  clear hr
  subst hz
  go_enter Try.func25, Try.ntmps25
  go_wp2_with fail
  go_loopw [3, 9] (fun s3 s9 wr => ∃ (i g n cp : Nat), i ≤ rs.length ∧ n ≤ i ∧ s3 = .slice (some ⟨g, 0, none⟩) n cp ∧ s9 = .int .i64 (i : Int) ∧ Hid (StW w wr g n cp (wrN (rs.take i)))) (fun _ s9 _ => rs.length - (intOf s9).toNat)
  case atStart => exact ⟨0, _, 0, 0, Nat.zero_le _, Nat.le_refl _, rfl, rfl, KJ⟩
  case round =>
    obtain ⟨i, g, n, cp, hi, hni, rfl, rfl, HK⟩ := hrel
    clear KJ
    by_cases hlt : i < rs.length
    · rcases (unhide HO) with ⟨h0, _⟩ | ⟨bb, off, rfl, _, hc⟩
      · omega
      obtain ⟨qa, ql, qc, hat, _, _, _⟩ := hc i hlt
      have hat := hat.below (unhide HK).bel
      have m0 := hat.c0
      have m1 := hat.c1
      have m2 := hat.c2
      have m3 := hat.c3
      have m4 := hat.c4
      have k0 : (0 : Int) ≤ (i : Int) := by omega
      have k1 : (i : Int) < (rs.length : Int) := by omega
      have HS : Hid (wrN (rs.take (i + 1)) = wrN (rs.take i) ++ [(elAt rs i).n]) := hide (wrN_take hlt)
      obtain ⟨p, hp⟩ : ∃ p, elAt rs i = p := ⟨_, rfl⟩
      rw [hp] at m0 m1 m3 m4
      rw [hp] at HS
      have K2 := hide ((unhide HK).below (bel1 (Obj.cells #[.string p.n, .int .i64 p.r, .slice qa ql qc, .bool p.l, .string p.d] 48)))
      clear hc hat hp
      go_wp2_with (at_builtin; (refine wpList_app_elG (K := 1) (cells := stC) rfl _ _ 29 9 rfl Try.underlying29 info_txt rfl (by decide) (by decide) p.n [.string p.n] rfl (fun q hq => by match q, hq with | 0, _ => rfl) (fun u hu => by simp at hu; rcases hu with rfl; rfl) (unhide K2).o (unhide K2).l rfl (by simp) rfl (unhide K2).bel.size (by omega) ?_; intro g' c' w9 o9 gr9 _; have K9 := hide ((unhide K2).app o9 gr9); clear o9 gr9))
      go_roundw
      case rel => exact ⟨i + 1, _, _, _, by omega, by omega, rfl, by go_num, by rw [unhide HS]; exact K9⟩
      case measure => simp [intOf]; omega
    · have k1 : ¬ (i : Int) < (rs.length : Int) := by omega
      have hie : i = rs.length := by omega
      have HI : Hid (rs.take i = rs) := hide (by rw [hie]; simp)
      clear hie
      go_wp2_with fail
      go_ret
      have ko := (unhide HK).o
      have kl := (unhide HK).l
      have kb := (unhide HK).bel
      rw [unhide HI] at ko kl
      rw [kl]
      exact ⟨_, _, rfl, ko, kb⟩
set_option maxRecDepth 20000 in
set_option maxHeartbeats 1000000 in
theorem isSo_any (qa : Option Addr) (ql qc : Nat) (p : Wr) (w : World) (hf : wrFit p) (hr : Row w qa ql p.q) :
    Calls Try.prog 32 #[.agg #[.string p.n, .int .i64 p.r, .slice qa ql qc, .bool p.l, .string p.d]] w fun e w' => e = .returned (.bool (wrSo p)) ∧ Below w.heap.size w w' := by
  have HF := hide hf.1
  have HR := hide (hr.alloc (Obj.cells #[.string p.n, .int .i64 p.r, .slice qa ql qc, .bool p.l, .string p.d] 48))
  clear hr hf
  have HV : Hid (wrSo p = (nameB p.n && inB p.r 1 3 && riseB p.q && allB p.q 0 9)) := hide rfl
  obtain ⟨x, r, q, l, d⟩ := p
  simp only at HF HR HV ⊢
  rcases four (nameB x) (inB r 1 3) (riseB q) (allB q 0 9) with ⟨e1, hv⟩ | ⟨e1, e2, hv⟩ | ⟨e1, e2, e3, hv⟩ | ⟨e1, e2, e3, e4, hv⟩ | ⟨e1, e2, e3, e4, hv⟩
  all_goals
    rw [hv] at HV
    clear hv
    go_enter Try.func32, Try.ntmps32
    go_wp2_with (first
      | (go_at_call 43; refine (nameOk_any _ _ (unhide HF)).mono ?_; rintro e w' ⟨rfl, hw⟩; subst w'; rw [e1])
      | (go_at_call 35; refine (within_is _ _ _ _ e2).mono ?_; rintro e w' ⟨rfl, hw⟩; subst w')
      | (go_at_call 44; refine (ascending_any _ _ _ q _ (unhide HR)).mono ?_; rintro e w' ⟨rfl, n1, hw⟩; subst w'; rw [e3])
      | (go_at_call 45; refine (allWithin_any _ _ _ q _ _ _ ((unhide HR).drewN _)).mono ?_; rintro e w' ⟨rfl, n2, hw⟩; subst w'; rw [e4]))
    go_ret
    refine ⟨ret_bool (unhide HV).symm, ?_⟩
    first
      | exact bel1 _
      | exact (bel1 _).trans (bel0d' _)
      | exact ((bel1 _).trans (bel0d' _)).trans (bel0d' _)
/-- The place of a phase among phases, or -1. -/
theorem indexI_any (ad : Option Addr) (len cap : Nat) (zs : List Int) (ph : Int) (w : World) (hr : Row w ad len zs) :
    Calls Try.prog 53 #[.slice ad len cap, .int .i64 ph] w fun e w' => (∃ r : Int, e = .returned (.int .i64 r) ∧ decide (0 ≤ r) = qtB zs ph) ∧ w' = w := by
  have hz := hr.len_eq
  have hs := hr.small
  have HO := hide hr.open_
  clear hr
  subst hz
  go_enter Try.func53, Try.ntmps53
  go_wp2_with fail
  go_loopw [8] (fun s8 wr => ∃ i : Nat, i ≤ zs.length ∧ s8 = .int .i64 (i : Int) ∧ Hid (∀ j, j < i → ¬ nth zs j = ph) ∧ wr = w) (fun s8 _ => zs.length - (intOf s8).toNat)
  case atStart => exact ⟨0, Nat.zero_le _, rfl, hide (fun j hj => by omega), rfl⟩
  case round =>
    obtain ⟨i, hi, rfl, HN, hwr⟩ := hrel
    subst wr
    by_cases hlt : i < zs.length
    · rcases (unhide HO) with ⟨h0, _⟩ | ⟨bb, off, rfl, _, hc⟩
      · omega
      have m0 := hc i hlt
      have k0 : (0 : Int) ≤ (i : Int) := by omega
      have k1 : (i : Int) < (zs.length : Int) := by omega
      obtain ⟨x, hx⟩ : ∃ x, nth zs i = x := ⟨_, rfl⟩
      rw [hx] at m0
      have HX := hide hx
      clear hx hc
      by_cases g : ph = x
      · have HE := hide (qtB_yes (ph := ph) hlt ((unhide HX).trans g.symm))
        have g2 : (ph == x) = true := by simp [g]
        clear g
        go_wp2_with fail
        go_ret
        exact ⟨⟨_, rfl, by rw [unhide HE]; simp⟩, rfl⟩
      · have HG := hide g
        have g2 : (ph == x) = false := by simp [g]
        clear g
        go_wp2_with fail
        go_roundw
        case rel => exact ⟨i + 1, by omega, by go_num, hide (fun j hj => by rcases Nat.lt_succ_iff_lt_or_eq.1 hj with h | h; exact unhide HN j h; subst h; rw [unhide HX]; exact fun e => unhide HG e.symm), by first | rfl | trivial⟩
        case measure => simp [intOf]; omega
    · have k1 : ¬ (i : Int) < (zs.length : Int) := by omega
      have HE := hide (qtB_no (q := zs) (ph := ph) (fun j hj => unhide HN j (by omega)))
      go_wp2_with fail
      go_ret
      exact ⟨⟨_, rfl, by rw [unhide HE]; simp⟩, rfl⟩
set_option maxHeartbeats 1000000 in
theorem containsI_any (ad : Option Addr) (len cap : Nat) (zs : List Int) (ph : Int) (w : World) (hr : Row w ad len zs) :
    Calls Try.prog 42 #[.slice ad len cap, .int .i64 ph] w fun e w' => e = .returned (.bool (qtB zs ph)) ∧ w' = w := by
  have HR := hide hr
  clear hr
  go_enter Try.func42, Try.ntmps42
  go_wp2_with (go_at_call 53; refine (indexI_any _ _ _ zs _ _ (unhide HR)).mono ?_; rintro e w' ⟨⟨r, rfl, hq⟩, hw⟩; subst w'; have HQ := hide hq; clear hq)
  go_ret
  exact ⟨ret_bool (unhide HQ), rfl⟩
set_option maxHeartbeats 1000000 in
theorem quietIn_any (qa : Option Addr) (ql qc : Nat) (p : Wr) (ph : Int) (w : World) (hr : Row w qa ql p.q) :
    Calls Try.prog 26 #[.agg #[.string p.n, .int .i64 p.r, .slice qa ql qc, .bool p.l, .string p.d], .int .i64 ph] w fun e w' => e = .returned (.bool (qtB p.q ph)) ∧ Below w.heap.size w w' := by
  have HR := hide (hr.alloc (Obj.cells #[.string p.n, .int .i64 p.r, .slice qa ql qc, .bool p.l, .string p.d] 48))
  clear hr
  go_enter Try.func26, Try.ntmps26
  go_wp2_with (go_at_call 42; refine (containsI_any _ _ _ p.q _ _ (unhide HR)).mono ?_; rintro e w' ⟨rfl, hw⟩; subst w')
  go_ret
  exact ⟨rfl, bel1 _⟩

end Go.Proofs.Ytfehfocfoegbdaa
