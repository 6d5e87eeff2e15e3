/-
  What the program's RulesOk, Inhibited and Loudest answer: the plain answers; nothing that was there is written.
-/
import Derived.Test.YtfehfocfoegbdaaMWrCmp
namespace Go.Proofs.Ytfehfocfoegbdaa
open Go.RowKit Go.Maps Go.WideMaps

set_option maxHeartbeats 1000000 in
theorem implRulesOk_any (ad : Option Addr) (len cap : Nat) (rs : List Wr) (w : World) (hr : RowW w ad len rs) (_hl : len ≤ 1048576) :
    Calls Try.prog 8 #[.slice ad len cap] w fun e w' => e = .returned (.bool (wrB rs)) ∧ Below w.heap.size w w' := by
  obtain ⟨qs, hv⟩ := hr.v
  have HV := hide hv
  clear hr hv
  go_enter Try.func8, Try.ntmps8
  go_wp2_with (go_at_call 16; refine (bookOf_any _ _ _ rs qs _ (unhide HV)).mono ?_; rintro e w1 ⟨n, F, rfl, _, _, _, _, b1⟩; have B1 := hide b1; clear b1)
  go_ret
  exact ⟨rfl, unhide B1⟩
theorem implRulesOk_is {c : Bool} (ad : Option Addr) (len cap : Nat) (rs : List Wr) (w : World) (hr : RowW w ad len rs) (hl : len ≤ 1048576) (hc : wrB rs = c) :
    Calls Try.prog 8 #[.slice ad len cap] w fun e w' => e = .returned (.bool c) ∧ Below w.heap.size w w' := by subst hc; exact implRulesOk_any ad len cap rs w hr hl
set_option maxHeartbeats 1000000 in
theorem phaseOk_is {c : Bool} (x : Int) (w : World) (hc : inB x 0 9 = c) :
    Calls Try.prog 19 #[.int .i64 x] w fun e w' => e = .returned (.bool c) ∧ w' = w := by
  go_enter Try.func19, Try.ntmps19
  go_wp2_with (go_at_call 35; refine (within_is _ _ _ _ hc).mono ?_; rintro e w' ⟨rfl, hw⟩; subst w')
  go_ret
  exact ⟨rfl, rfl⟩
theorem quietIn_is {c : Bool} (qa : Option Addr) (ql qc : Nat) (x : ByteArray) (r : Int) (q : List Int) (l : Bool) (d : ByteArray) (ph : Int) (w : World) (hr : Row w qa ql q) (hc : qtB q ph = c) :
    Calls Try.prog 26 #[.agg #[.string x, .int .i64 r, .slice qa ql qc, .bool l, .string d], .int .i64 ph] w fun e w' => e = .returned (.bool c) ∧ Below w.heap.size w w' := by
  subst hc; exact quietIn_any qa ql qc ⟨x, r, q, l, d⟩ ph w hr
set_option maxRecDepth 20000 in
set_option maxHeartbeats 1000000 in
theorem implInhibited_any (ad : Option Addr) (len cap : Nat) (rs : List Wr) (ph : Int) (w : World) (hr : RowW w ad len rs) (hl : len ≤ 1048576) :
    Calls Try.prog 7 #[.slice ad len cap, .int .i64 ph] w fun e w' => ∃ a1 c1, e = .returned (.tuple #[.slice a1 (inhL rs ph).length c1, .bool (inhB rs ph)]) ∧ OwnE 1 stC w' w.heap.size 9 (.slice a1 (inhL rs ph).length c1) (inhL rs ph) ∧ Below w.heap.size w w' := by
  have hz := hr.len_eq
  subst hz
  have HR := hide (hr.alloc (Obj.cells #[] 9))
  rcases two (wrB rs) (inB ph 0 9) with ⟨q1, hv⟩ | ⟨q1, q2, hv⟩ | ⟨q1, q2, hv⟩
  · have e1 : inhB rs ph = false := hv
    have e2 : inhL rs ph = [] := by simp [inhL, e1]
    rw [e1, e2]
    clear e1 e2 hv hr
    go_enter Try.func7, Try.ntmps7
    go_wp2_with (go_at_call 8; refine (implRulesOk_is _ _ _ rs _ (unhide HR) hl q1).mono ?_; rintro e w1 ⟨rfl, b1⟩; have B1 := hide b1; clear b1)
    go_ret2
    exact ⟨some ⟨w.heap.size, 0, none⟩, 0, rfl, (stE_none (Nat.le_refl _)).below (unhide B1), (bel1 _).trans ((unhide B1).mono (by simp))⟩
  · have e1 : inhB rs ph = false := hv
    have e2 : inhL rs ph = [] := by simp [inhL, e1]
    rw [e1, e2]
    clear e1 e2 hv hr
    go_enter Try.func7, Try.ntmps7
    go_wp2_with (first | (go_at_call 8; refine (implRulesOk_is _ _ _ rs _ (unhide HR) hl q1).mono ?_; rintro e w1 ⟨rfl, b1⟩; have B1 := hide b1; clear b1) | (go_at_call 19; refine (phaseOk_is _ _ q2).mono ?_; rintro e w' ⟨rfl, hw⟩; subst w'))
    go_ret2
    exact ⟨some ⟨w.heap.size, 0, none⟩, 0, rfl, (stE_none (Nat.le_refl _)).below (unhide B1), (bel1 _).trans ((unhide B1).mono (by simp))⟩
  · have EB : Hid (inhB rs ph = true) := hide hv
    have EL : Hid (inhL rs ph = inhK rs ph rs.length) := hide (by simp [inhL, unhide EB])
    have hl30 := (wrB_facts q1).2
    have HO := hide hr.open_
    have HQ1 := hide q1
    clear hv hr
    go_enter Try.func7, Try.ntmps7
    go_wp2_with (first | (go_at_call 8; refine (implRulesOk_is _ _ _ rs _ (unhide HR) hl (unhide HQ1)).mono ?_; rintro e w1 ⟨rfl, b1⟩; have KJ : Hid (StW w w1 w.heap.size 0 0 []) := hide ⟨(stE_none (Nat.le_refl _)).below b1, rfl, (bel1 _).trans (b1.mono (by simp))⟩; clear b1) | (go_at_call 19; refine (phaseOk_is _ _ q2).mono ?_; rintro e w' ⟨rfl, hw⟩; subst w'))
    go_loopw [6, 21] (fun s6 s7 wr => ∃ (i g n cp : Nat), i ≤ rs.length ∧ n ≤ i ∧ s6 = .slice (some ⟨g, 0, none⟩) n cp ∧ s7 = .int .i64 (i : Int) ∧ Hid (StW w wr g n cp (inhK rs ph i))) (fun _ s7 _ => rs.length - (intOf s7).toNat)
    case atStart => exact ⟨0, _, 0, 0, Nat.zero_le _, Nat.le_refl _, rfl, rfl, KJ⟩
    case round =>
      obtain ⟨i, g, n, cp, hi, hni, rfl, rfl, HK⟩ := hrel
      clear KJ
      by_cases hlt : i < rs.length
      · rcases (unhide HO) with ⟨h0, _⟩ | ⟨bb, off, rfl, _, hc⟩
        · omega
        obtain ⟨qa, ql, qc, hat, hrow, _, _⟩ := hc i hlt
        have hat := hat.below (unhide HK).bel
        have hrow := hrow.below (unhide HK).bel
        have m0 := hat.c0
        have m1 := hat.c1
        have m2 := hat.c2
        have m3 := hat.c3
        have m4 := hat.c4
        have k0 : (0 : Int) ≤ (i : Int) := by omega
        have k1 : (i : Int) < (rs.length : Int) := by omega
        have HS : Hid (inhK rs ph (i + 1) = if qtB (elAt rs i).q ph = true then inhK rs ph i ++ [(elAt rs i).n] else inhK rs ph i) := hide rfl
        obtain ⟨⟨x, r, q, l, d⟩, hp⟩ : ∃ p, elAt rs i = p := ⟨_, rfl⟩
        rw [hp] at m0 m1 m3 m4 HS hrow
        simp only at m0 m1 m3 m4 HS hrow
        obtain ⟨V, hV⟩ : ∃ V, V = wr.alloc (Obj.cells #[.string x, .int .i64 r, .slice qa ql qc, .bool l, .string d] 48) := ⟨_, rfl⟩
        have KV : Hid (StW w V g n cp (inhK rs ph i)) := hide (by rw [hV]; exact (unhide HK).below (bel1 _))
        have HBV : Hid (Blk V wr.heap.size [.string x, .int .i64 r, .slice qa ql qc, .bool l, .string d]) := hide (by rw [hV]; exact Blk.new _ _)
        have RV : Row V qa ql q := by rw [hV]; exact hrow.alloc _
        have HV := hide hV
        cases gq : qtB q ph with
        | true =>
          rw [gq, if_pos rfl] at HS
          have HC := hide (quietIn_is qa ql qc x r q l d ph V RV gq)
          clear hc hat hrow hp hV RV gq
          go_wp2_with fail
          rw [← unhide HV]
          refine (unhide HC).mono ?_
          rintro e w2 ⟨rfl, b2⟩
          have K2 := hide ((unhide KV).below b2)
          have mm0 : w2.cell? ⟨wr.heap.size, 0, none⟩ = some (.string x) := ((unhide HBV).below b2).c 0 (by simp)
          clear b2
          go_wp2_with (at_builtin; (refine wpList_app_elG (K := 1) (cells := stC) rfl _ _ 29 9 rfl Try.underlying29 info_txt rfl (by decide) (by decide) x [.string x] rfl (fun q hq => by match q, hq with | 0, _ => rfl) (fun u hu => by simp at hu; rcases hu with rfl; rfl) (unhide K2).o (unhide K2).l rfl (by simp) rfl (unhide K2).bel.size (by omega) ?_; intro g' c' w9 o9 gr9 _; have K9 := hide ((unhide K2).app o9 gr9); clear o9 gr9))
          go_roundw
          case rel => exact ⟨i + 1, _, _, _, by omega, by omega, rfl, by go_num, by rw [unhide HS]; exact K9⟩
          case measure => simp [intOf]; omega
        | false =>
          rw [gq, if_neg (by simp)] at HS
          have HC := hide (quietIn_is qa ql qc x r q l d ph V RV gq)
          clear hc hat hrow hp hV RV gq
          go_wp2_with fail
          rw [← unhide HV]
          refine (unhide HC).mono ?_
          rintro e w2 ⟨rfl, b2⟩
          have K2 := hide ((unhide KV).below b2)
          clear b2
          go_wp2_with fail
          go_roundw
          case rel => exact ⟨i + 1, _, _, _, by omega, by omega, rfl, by go_num, by rw [unhide HS]; exact K2⟩
          case measure => simp [intOf]; omega
      · have k1 : ¬ (i : Int) < (rs.length : Int) := by omega
        have hie : i = rs.length := by omega
        have HI := hide hie
        clear hie
        go_wp2_with fail
        go_ret2
        have ko := (unhide HK).o
        have kl := (unhide HK).l
        have kb := (unhide HK).bel
        rw [unhide HI, ← unhide EL] at ko kl
        refine ⟨some ⟨g, 0, none⟩, cp, ?_, ?_, kb⟩
        · rw [kl, unhide EB]; try rfl
        · rw [kl]; exact ko
theorem run_fldR (x : ByteArray) (r : Int) (qa : Option Addr) (ql qc : Nat) (l : Bool) (d : ByteArray) (w : World) : (Instr.field 48 (.agg #[.string x, .int .i64 r, .slice qa ql qc, .bool l, .string d]) 1).run Try.prog w = .ok (.int .i64 r) w := by kernel_rfl
attribute [local go_sem high] run_fldR
set_option maxRecDepth 20000 in
set_option maxHeartbeats 1000000 in
theorem implLoudest_any (ad : Option Addr) (len cap : Nat) (rs : List Wr) (bd : Option Addr) (len2 cap2 : Nat) (ts : List ByteArray) (w : World) (hr : RowW w ad len rs) (hr2 : RowE 1 stC w bd len2 ts) (hf2 : ∀ i, i < len2 → (elAt ts i).size ≤ 9223372036854775807) :
    Calls Try.prog 10 #[.slice ad len cap, .slice bd len2 cap2] w fun e w' => e = .returned (.tuple #[.int .i64 (loR rs ts), .bool (loB rs ts)]) ∧ Below w.heap.size w w' := by
  obtain ⟨qs, hv⟩ := hr.v
  have HV := hide hv
  have hz2 := hr2.len_eq
  have hs2 := hr2.small
  subst hz2
  have HF2 := hide hf2
  have HO2 := hide hr2.open1
  clear hr hr2 hv hf2
  cases q1 : wrB rs with
  | false =>
    have e1 : loB rs ts = false := by simp [loB, q1]
    have e2 : loR rs ts = 0 := by simp [loR, e1]
    rw [e1, e2]
    have HQ1 := hide q1
    clear e1 e2 q1
    go_enter Try.func10, Try.ntmps10
    go_wp2_with (go_at_call 16; refine (bookOf_any _ _ _ rs qs _ (unhide HV)).mono ?_; rintro e w1 ⟨n, F, rfl, _, _, _, _, b1⟩; rw [unhide HQ1]; have B1 := hide b1; clear b1)
    go_ret2
    exact ⟨rfl, unhide B1⟩
  | true =>
    have HQ1 := hide q1
    by_cases q2 : ts.length ≤ 30
    · have EB : Hid (loB rs ts = true) := hide (by simp [loB, q1, q2])
      have ER : Hid (loR rs ts = loK rs ts ts.length) := hide (by simp [loR, unhide EB])
      have hq2 : ¬ (30 : Int) < (ts.length : Int) := by omega
      have HBD := hide (loK_bd q1 ts)
      have HRB : Hid (∀ i, i < rs.length → 1 ≤ (elAt rs i).r ∧ (elAt rs i).r ≤ 3) := hide (fun i hi => wrR_facts q1 hi)
      clear q1
      go_enter Try.func10, Try.ntmps10
      go_wp2_with (go_at_call 16; refine (bookOf_any _ _ _ rs qs _ (unhide HV)).mono ?_; rintro e w1 ⟨n, F, rfl, hm, _, hF, _, b1⟩; rw [unhide HQ1]; have hF := hF (unhide HQ1); subst hF; have HM := hide hm; have B1 := hide b1; clear b1 hm)
      go_loopw [8, 25] (fun s6 s7 wr => ∃ i : Nat, i ≤ ts.length ∧ s6 = .int .i64 (loK rs ts i) ∧ s7 = .int .i64 (i : Int) ∧ wr = w1) (fun _ s7 _ => ts.length - (intOf s7).toNat)
      case atStart => exact ⟨0, Nat.zero_le _, rfl, rfl, rfl⟩
      case round =>
        obtain ⟨i, hi, rfl, rfl, hwr⟩ := hrel
        subst wr
        by_cases hlt : i < ts.length
        · rcases (unhide HO2) with ⟨h0, _⟩ | ⟨b2, off2, rfl, _, hc2⟩
          · omega
          have t0 : w1.cell? ⟨b2, off2 + i, none⟩ = some (.string (elAt ts i)) := ((unhide B1).cell (block_lt_of_cell (hc2 i hlt))).trans (hc2 i hlt)
          have k0 : (0 : Int) ≤ (i : Int) := by omega
          have k1 : (i : Int) < (ts.length : Int) := by omega
          have hsz := unhide HF2 i hlt
          have HS : Hid (loK rs ts (i + 1) = if wfK rs (elAt ts i) < rs.length then max (loK rs ts i) (elAt rs (wfK rs (elAt ts i))).r else loK rs ts i) := hide rfl
          have hbd := unhide HBD i
          obtain ⟨d, hd⟩ : ∃ d, elAt ts i = d := ⟨_, rfl⟩
          rw [hd] at t0 hsz HS
          have hlook := (unhide HM).get Try.underlying50 (Try.zeroValue48 w1) hsz
          have HBK : Hid (bkA rs qs d = if wfK rs d < rs.length then some (wrV (elAt rs (wfK rs d)) (qs (wfK rs d))) else none) := hide rfl
          obtain ⟨B, hB⟩ : ∃ B, loK rs ts i = B := ⟨_, rfl⟩
          rw [hB] at HS hbd ⊢
          clear hc2 hd hB
          by_cases hk : wfK rs d < rs.length
          · rw [if_pos hk] at HBK HS
            have hrb := unhide HRB _ hk
            obtain ⟨⟨x2, r2, q2, l2, d2⟩, hp2⟩ : ∃ p, elAt rs (wfK rs d) = p := ⟨_, rfl⟩
            obtain ⟨⟨qa2, ql2, qc2⟩, hq2⟩ : ∃ q, qs (wfK rs d) = q := ⟨_, rfl⟩
            rw [hp2, hq2] at HBK
            rw [hp2] at HS hrb
            rw [unhide HBK] at hlook
            unfold wrV at hlook
            simp only [Option.getD_some] at hlook
            simp only at HS hrb
            clear hp2 hq2 hk
            by_cases c : B < r2
            · have HS2 : Hid (loK rs ts (i + 1) = r2) := hide (by rw [unhide HS]; omega)
              go_wp2_with fail
              go_roundw
              case rel => exact ⟨i + 1, by omega, by rw [unhide HS2]; go_num, by go_num, by first | rfl | trivial⟩
              case measure => simp [intOf]; omega
            · have HS2 : Hid (loK rs ts (i + 1) = B) := hide (by rw [unhide HS]; omega)
              go_wp2_with fail
              go_roundw
              case rel => exact ⟨i + 1, by omega, by rw [unhide HS2]; go_num, by go_num, by first | rfl | trivial⟩
              case measure => simp [intOf]; omega
          · rw [if_neg hk] at HBK HS
            rw [unhide HBK] at hlook
            simp only [Option.getD_none] at hlook
            have c : ¬ B < 0 := by omega
            go_wp2_with fail
            go_roundw
            case rel => exact ⟨i + 1, by omega, by rw [unhide HS]; go_num, by go_num, by first | rfl | trivial⟩
            case measure => simp [intOf]; omega
        · have k1 : ¬ (i : Int) < (ts.length : Int) := by omega
          have hie : i = ts.length := by omega
          have HE : Hid (loR rs ts = loK rs ts i) := hide (by rw [unhide ER, hie])
          clear hie
          go_wp2_with fail
          go_ret2
          rw [unhide HE, unhide EB]
          exact ⟨rfl, unhide B1⟩
    · have e1 : loB rs ts = false := by simp [loB, q1, q2]
      have e2 : loR rs ts = 0 := by simp [loR, e1]
      have hq2 : (30 : Int) < (ts.length : Int) := by omega
      rw [e1, e2]
      clear e1 e2 q1
      go_enter Try.func10, Try.ntmps10
      go_wp2_with (go_at_call 16; refine (bookOf_any _ _ _ rs qs _ (unhide HV)).mono ?_; rintro e w1 ⟨n, F, rfl, _, _, _, _, b1⟩; rw [unhide HQ1]; have B1 := hide b1; clear b1)
      go_ret2
      exact ⟨rfl, unhide B1⟩

end Go.Proofs.Ytfehfocfoegbdaa
