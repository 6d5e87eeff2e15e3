/-
  Which rules are quiet in a phase, in the model: the plain answer; its list owns its memory; nothing that was there is written.
-/
import Derived.Test.YtjalfalgffphmawWrLou
namespace Go.Proofs.Ytjalfalgffphmaw
open Go.RowKit

theorem info_txt : (Try.prog.info? 9).map (fun i => (i.zero, i.size, i.bytes)) = some (some (.string ⟨#[]⟩), 1, 16) := by kernel_rfl
theorem stE_none {w w1 : World} (h : w.heap.size ≤ w1.heap.size) : OwnE 1 stC (w1.alloc (Obj.cells #[] 9)) w.heap.size 9 (.slice (some ⟨w1.heap.size, 0, none⟩) 0 0) [] := by
  refine ⟨⟨[], ⟨rfl, .inr ⟨_, _, #[], rfl, h, ?_, Nat.le_refl _, by simp [maxLen], rfl, rfl⟩⟩, fun j hj => by simp at hj⟩⟩
  show (w1.heap.push _)[w1.heap.size]? = _
  simp
/-- A list of texts that grows. -/
structure StW (w wr : World) (g n cp : Nat) (out : List ByteArray) : Prop where
  o : OwnE 1 stC wr w.heap.size 9 (.slice (some ⟨g, 0, none⟩) n cp) out
  l : out.length = n
  bel : Below w.heap.size w wr
theorem StW.below {w wr w' : World} {g n cp : Nat} {out : List ByteArray} (k : StW w wr g n cp out) (b : Below wr.heap.size wr w') : StW w w' g n cp out := ⟨k.o.below b, k.l, k.bel.trans (b.mono k.bel.size)⟩
theorem StW.app {w wr w' : World} {g n cp g' cp' : Nat} {out : List ByteArray} {z : ByteArray} (k : StW w wr g n cp out) (o : OwnE 1 stC w' w.heap.size 9 (.slice (some ⟨g', 0, none⟩) (n + 1) cp') (out ++ [z])) (gr : wr.grownBy w' (Value.slice (some ⟨g, 0, none⟩) n cp).ownBlock) : StW w w' g' (n + 1) cp' (out ++ [z]) :=
  ⟨o, by simp [k.l], k.bel.grown gr k.bel.size (fun q hq => (k.o.lies q hq).1)⟩
set_option maxRecDepth 20000 in
set_option maxHeartbeats 1000000 in
theorem specInhibited_any (ad : Option Addr) (len cap : Nat) (rs : List Wr) (ph : Int) (w : World) (hr : RowW w ad len rs) (hl : len ≤ 1048576) :
    Calls Try.prog 17 #[.slice ad len cap, .int .i64 ph] w fun e w' => ∃ a1 c1, e = .returned (.tuple #[.slice a1 (inhL rs ph).length c1, .bool (inhB rs ph)]) ∧ OwnE 1 stC w' w.heap.size 9 (.slice a1 (inhL rs ph).length c1) (inhL rs ph) ∧ Below w.heap.size w w' := by
  have hz := hr.len_eq
  subst hz
  have HR := hide (hr.alloc (Obj.cells #[] 9))
  rcases two (wrB rs) (inB ph 0 9) with ⟨q1, hv⟩ | ⟨q1, q2, hv⟩ | ⟨q1, q2, hv⟩
  · have e1 : inhB rs ph = false := hv
    have e2 : inhL rs ph = [] := by simp [inhL, e1]
    rw [e1, e2]
    clear e1 e2 hv hr
    go_enter Try.func17, Try.ntmps17
    go_wp2_with (go_at_call 28; refine (specRulesOk_is _ _ _ rs _ (unhide HR) hl q1).mono ?_; rintro e w1 ⟨rfl, b1⟩; have B1 := hide b1; clear b1)
    go_ret2
    exact ⟨some ⟨w.heap.size, 0, none⟩, 0, rfl, (stE_none (Nat.le_refl _)).below (unhide B1), (bel1 _).trans ((unhide B1).mono (by simp))⟩
  · have e1 : inhB rs ph = false := hv
    have e2 : inhL rs ph = [] := by simp [inhL, e1]
    rw [e1, e2]
    clear e1 e2 hv hr
    go_enter Try.func17, Try.ntmps17
    go_wp2_with (first | (go_at_call 28; refine (specRulesOk_is _ _ _ rs _ (unhide HR) hl q1).mono ?_; rintro e w1 ⟨rfl, b1⟩; have B1 := hide b1; clear b1) | (go_at_call 40; refine (l1In_is _ _ _ _ q2).mono ?_; rintro e w' ⟨rfl, hw⟩; subst w'))
    go_ret2
    exact ⟨some ⟨w.heap.size, 0, none⟩, 0, rfl, (stE_none (Nat.le_refl _)).below (unhide B1), (bel1 _).trans ((unhide B1).mono (by simp))⟩
  · have EB : Hid (inhB rs ph = true) := hide hv
    have EL : Hid (inhL rs ph = inhK rs ph rs.length) := hide (by simp [inhL, unhide EB])
    have hl30 := (wrB_facts q1).2
    have HO := hide hr.open_
    have HQ1 := hide q1
    clear hv hr
    go_enter Try.func17, Try.ntmps17
    go_wp2_with (first | (go_at_call 28; refine (specRulesOk_is _ _ _ rs _ (unhide HR) hl (unhide HQ1)).mono ?_; rintro e w1 ⟨rfl, b1⟩; have KJ : Hid (StW w w1 w.heap.size 0 0 []) := hide ⟨(stE_none (Nat.le_refl _)).below b1, rfl, (bel1 _).trans (b1.mono (by simp))⟩; clear b1) | (go_at_call 40; refine (l1In_is _ _ _ _ q2).mono ?_; rintro e w' ⟨rfl, hw⟩; subst w'))
    go_loopw [6, 7] (fun s6 s7 wr => ∃ (i g n cp : Nat), i ≤ rs.length ∧ n ≤ i ∧ s6 = .slice (some ⟨g, 0, none⟩) n cp ∧ s7 = .int .i64 (i : Int) ∧ Hid (StW w wr g n cp (inhK rs ph i))) (fun _ s7 _ => rs.length - (intOf s7).toNat)
    case atStart => exact ⟨0, _, 0, 0, Nat.zero_le _, Nat.le_refl _, rfl, rfl, KJ⟩
    case round =>
      obtain ⟨i, g, n, cp, hi, hni, rfl, rfl, HK⟩ := hrel
      clear KJ
      by_cases hlt : i < rs.length
      · rcases (unhide HO) with ⟨h0, _⟩ | ⟨bb, off, rfl, _, hc⟩
        · omega
        obtain ⟨qa, ql, qc, hat, hrow, _, _⟩ := hc i hlt
        have hat := hat.below (unhide HK).bel
        have m0 := hat.c0
        have m1 := hat.c1
        have m2 := hat.c2
        have m3 := hat.c3
        have m4 := hat.c4
        have hql := hrow.len_eq
        have hq10 := wrQ_len (unhide HQ1) hlt
        have k0 : (0 : Int) ≤ (i : Int) := by omega
        have k1 : (i : Int) < (rs.length : Int) := by omega
        have HC := hide (l14Quiet_any qa ql qc (elAt rs i) ph wr (hrow.below (unhide HK).bel) (by omega))
        have HAT := hide hat
        have HS : Hid (inhK rs ph (i + 1) = if qtB (elAt rs i).q ph = true then inhK rs ph i ++ [(elAt rs i).n] else inhK rs ph i) := hide rfl
        clear hc hat hrow hql hq10
        cases gq : qtB (elAt rs i).q ph with
        | true =>
          rw [gq, if_pos rfl] at HS
          rw [gq] at HC
          go_wp2_with (first
            | (go_at_call 41; refine (unhide HC).mono ?_; rintro e w2 ⟨rfl, b2⟩; have K2 := hide ((unhide HK).below b2); have mm0 := ((unhide HAT).below b2).c0; clear b2)
            | (at_builtin; (refine wpList_app_elG (K := 1) (cells := stC) rfl _ _ 23 9 rfl Try.underlying23 info_txt rfl (by decide) (by decide) (elAt rs i).n [.string (elAt rs i).n] rfl (fun q hq => by match q, hq with | 0, _ => rfl) (fun u hu => by simp at hu; rcases hu with rfl; rfl) (unhide K2).o (unhide K2).l rfl (by simp) rfl (unhide K2).bel.size (by omega) ?_; intro g' c' w9 o9 gr9 _; have K9 := hide ((unhide K2).app o9 gr9); clear o9 gr9)))
          go_roundw
          case rel => exact ⟨i + 1, _, _, _, by omega, by omega, rfl, by go_num, by rw [unhide HS]; exact K9⟩
          case measure => simp [intOf]; omega
        | false =>
          rw [gq, if_neg (by simp)] at HS
          rw [gq] at HC
          go_wp2_with (go_at_call 41; refine (unhide HC).mono ?_; rintro e w2 ⟨rfl, b2⟩; have K2 := hide ((unhide HK).below b2); clear b2)
          go_roundw
          case rel => exact ⟨i + 1, _, _, _, by omega, by omega, rfl, by go_num, by rw [unhide HS]; exact K2⟩
          case measure => simp [intOf]; omega
      · have k1 : ¬ (i : Int) < (rs.length : Int) := by omega
        have hie : i = rs.length := by omega
        have HI := hide hie
        clear hie
        go_wp2_with fail
        go_ret2
        have ko := (unhide HK).o
        have kl := (unhide HK).l
        have kb := (unhide HK).bel
        rw [unhide HI, ← unhide EL] at ko kl
        refine ⟨some ⟨g, 0, none⟩, cp, ?_, ?_, kb⟩
        · rw [kl, unhide EB]; try rfl
        · rw [kl]; exact ko

end Go.Proofs.Ytjalfalgffphmaw
