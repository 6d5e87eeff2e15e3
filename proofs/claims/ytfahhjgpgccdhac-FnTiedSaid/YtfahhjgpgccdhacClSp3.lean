/-
  What the model's CloseFor answers. At every net and number; nothing that was there is written.
-/
import Derived.Test.YtfahhjgpgccdhacClSp2
namespace Go.Proofs.Ytfahhjgpgccdhac
open Go.RowKit

set_option maxRecDepth 20000 in
set_option maxHeartbeats 4000000 in
theorem specCloseFor_any (n : Int) (a1 a2 a3 : Option Addr) (l1 c1 l2 c2 l3 c3 : Nat) (ss : List Sr) (ts : List Ti) (us : List Us) (most : Int) (w : World) (hr : NetIn w a1 a2 a3 l1 l2 l3 ss ts us) :
    Calls Try.prog 15 #[.agg #[.int .i64 n, .slice a1 l1 c1, .slice a2 l2 c2, .slice a3 l3 c3], .int .i64 most] w fun x w' => ∃ a c, x = .returned (.tuple #[.slice a (clL n ss ts us most).length c, .bool (clB n ss ts us most)]) ∧ OwnI w' w.heap.size (.slice a (clL n ss ts us most).length c) (clL n ss ts us most) ∧ (netB n ss ts us = true → True) ∧ Below w.heap.size w w' := by
  have R := hide hr
  have KP := hide (Blk.new (w := w) [.int .i64 n, .slice a1 l1 c1, .slice a2 l2 c2, .slice a3 l3 c3] 44)
  have HB := hide (bel1 (w := w) (Obj.cells #[.int .i64 n, .slice a1 l1 c1, .slice a2 l2 c2, .slice a3 l3 c3] 44))
  clear hr
  cases hc : clOk n ss ts us most with
  | false =>
    have HL : Hid (clL n ss ts us most = []) := hide (by rw [clL, clF_no hc]; rfl)
    have HL2 : Hid (clB n ss ts us most = false) := hide (by rw [clB, clF_no hc]; rfl)
    rw [unhide HL, unhide HL2]
    cases hk : netB n ss ts us with
    | false =>
      clear hc
      go_enter Try.func15, Try.ntmps15
      go_wp2_with fail
      refine (specNetOk_is n a1 a2 a3 l1 c1 l2 c2 l3 c3 ss ts us _ ((unhide R).below (unhide HB)) hk).mono ?_
      rintro e w1 ⟨rfl, b1⟩
      have HB := hide ((unhide HB).trans (b1.mono (unhide HB).size))
      clear b1 KP R HL
      go_wp2_with fail
      go_ret2
      exact ⟨_, _, rfl, ownI_none (w := w) (unhide HB).size, fun _ => trivial, (unhide HB).trans ((bel1 _).mono (unhide HB).size)⟩
    | true =>
      have hi : inB most 0 3 = false := by simpa [clOk, hk] using hc
      clear hc
      go_enter Try.func15, Try.ntmps15
      go_wp2_with fail
      refine (specNetOk_is n a1 a2 a3 l1 c1 l2 c2 l3 c3 ss ts us _ ((unhide R).below (unhide HB)) hk).mono ?_
      rintro e w1 ⟨rfl, b1⟩
      have HB := hide ((unhide HB).trans (b1.mono (unhide HB).size))
      clear b1 KP R HL
      go_wp2_with (go_at_call 36; refine (l1In_is _ _ _ _ hi).mono ?_; rintro e w' ⟨rfl, hw⟩; subst w')
      go_ret2
      exact ⟨_, _, rfl, ownI_none (w := w) (unhide HB).size, fun _ => trivial, (unhide HB).trans ((bel1 _).mono (unhide HB).size)⟩
  | true =>
    obtain ⟨hk, hi⟩ : netB n ss ts us = true ∧ inB most 0 3 = true := by simpa [clOk] using hc
    obtain ⟨N, rfl⟩ : ∃ N : Nat, n = (N : Int) := ⟨n.toNat, by have := in_facts (netB_parts hk).1; omega⟩
    obtain ⟨K, hK⟩ : ∃ K : Nat, most = (K : Int) := ⟨most.toNat, by have := in_facts hi; omega⟩
    have hmb := in_facts hi
    obtain ⟨Z, hZ⟩ : ∃ Z, clUp (fun m => clR (wellB N ss us) m 0 ts) (K + 1 - 0) 0 = Z := ⟨_, rfl⟩
    have hF : clF (N : Int) ss ts us most = Z := by rw [clF_yes hc, clT, hK]; simpa using hZ
    rw [clL, clB, hF]
    have HZ := hide hZ
    have HK := hide hK
    have HKb : Hid (K ≤ 3) := hide (by omega)
    have HOK := hide hk
    clear hc hZ hF hK
    go_enter Try.func15, Try.ntmps15
    go_wp2_with fail
    refine (specNetOk_is (N : Int) a1 a2 a3 l1 c1 l2 c2 l3 c3 ss ts us _ ((unhide R).below (unhide HB)) (unhide HOK)).mono ?_
    rintro e w1 ⟨rfl, b1⟩
    have KP1 := hide ((unhide KP).below b1)
    have HB1 := hide ((unhide HB).trans (b1.mono (unhide HB).size))
    clear b1 KP HB
    go_wp2_with (go_at_call 36; refine (l1In_is _ _ _ _ hi).mono ?_; rintro e w' ⟨rfl, hw⟩; subst w')
    go_loopw [6] (fun p wr => ∃ k : Nat, p = .int .i64 (k : Int) ∧ k ≤ 4 ∧ Hid (k ≤ K + 1) ∧ Hid (Blk wr w.heap.size [.int .i64 (N : Int), .slice a1 l1 c1, .slice a2 l2 c2, .slice a3 l3 c3]) ∧ Hid (Below w.heap.size w wr) ∧ Hid (clUp (fun m => clR (wellB N ss us) m 0 ts) (K + 1 - k) k = Z)) (fun p _ => 4 - (intOf p).toNat)
    case atStart => exact ⟨0, rfl, by omega, hide (by omega), KP1, HB1, HZ⟩
    case round =>
      clear KP1 HB1 HZ
      obtain ⟨k, rfl, hk4, HKK, KP, HB, HZ⟩ := hrel
      by_cases hlt : k < K + 1
      · have hlt2 : (k : Int) ≤ most := by have := unhide HK; omega
        have hk3 : k ≤ 3 := by have := unhide HKb; omega
        have HLT := hide hlt
        clear hlt
        have KP0 := KP
        have HB2 := hide ((unhide HB).trans ((bel1 (w := wr) (Obj.cells #[] 3)).mono (unhide HB).size))
        have OE := hide (ownI_none (w := w) (w1 := wr) (unhide HB).size)
        have KP := hide ((unhide KP).alloc (Obj.cells #[] 3))
        have p0 : wr.cell? ⟨w.heap.size, 0, none⟩ = some (.int .i64 (N : Int)) := (unhide KP0).c 0 (by simp)
        have p1 : wr.cell? ⟨w.heap.size, 1, none⟩ = some (.slice a1 l1 c1) := (unhide KP0).c 1 (by simp)
        have p2 : wr.cell? ⟨w.heap.size, 2, none⟩ = some (.slice a2 l2 c2) := (unhide KP0).c 2 (by simp)
        have p3 : wr.cell? ⟨w.heap.size, 3, none⟩ = some (.slice a3 l3 c3) := (unhide KP0).c 3 (by simp)
        go_wp2_with fail
        refine (l7Close_is N a1 a3 l1 c1 l3 c3 ss us k 0 a2 l2 c2 ts _ 0 _ [] wr.heap.size 0 0 w.heap.size rfl rfl ((unhide R).below (unhide HB2)) (unhide HOK) (Nat.zero_le _) (by omega) (unhide OE) rfl (by omega) (unhide HB2).size).mono ?_
        rintro e w2 ⟨v2, rfl, h2, b2⟩
        have KP2 := hide ((unhide KP).below b2)
        have HB3 := hide ((unhide HB2).trans (b2.mono (unhide HB2).size))
        cases hg : clR (wellB N ss us) k 0 ts with
        | none =>
          have HZ1 : Hid (clUp (fun m => clR (wellB N ss us) m 0 ts) (K + 1 - (k + 1)) (k + 1) = Z) := hide (by rw [← clUp_on (unhide HLT) hg]; exact unhide HZ)
          clear h2 b2 hg p0 p1 p2 p3
          simp only [Option.isSome_none]
          go_wp2_with fail
          go_roundw
          case rel => exact ⟨k + 1, by go_num, by omega, hide (by have := unhide HLT; omega), KP2, HB3, HZ1⟩
          case measure => simp [intOf]; omega
        | some l =>
          have HZ1 : Hid (Z = some l) := hide (by rw [← unhide HZ]; exact clUp_at (unhide HLT) hg)
          obtain ⟨g2, d2, rfl, _, _⟩ : ∃ g d, v2 = .slice g l.length d ∧ True ∧ True := by
            have o2 := h2 l hg
            rcases o2.form with ⟨e, e2⟩ | ⟨g, d, e, _⟩
            · exact ⟨none, 0, by rw [e]; simp at e2; rw [e2]; rfl, trivial, trivial⟩
            · exact ⟨_, d, by simpa using e, trivial, trivial⟩
          have O2 : Hid (OwnI w2 w.heap.size (.slice g2 l.length d2) l) := hide (by simpa using h2 l hg)
          clear hg b2 h2 p0 p1 p2 p3
          simp only [Option.isSome_some]
          go_wp2_with fail
          go_ret2
          refine ⟨g2, d2, ?_, ?_, by first | exact unhide HB3 | exact ⟨fun _ => trivial, unhide HB3⟩⟩
          · rw [unhide HZ1]; rfl
          · rw [unhide HZ1]; exact unhide O2
      · have hlt2 : ¬ (k : Int) ≤ most := by have := unhide HK; omega
        have HZ1 : Hid (Z = none) := hide (by rw [← unhide HZ]; exact clUp_end (by omega))
        have HB2 := hide ((unhide HB).trans ((bel1 (w := wr) (Obj.cells #[] 3)).mono (unhide HB).size))
        have O2 := hide (ownI_none (w := w) (w1 := wr) (unhide HB).size)
        clear hlt
        go_wp2_with fail
        go_ret2
        refine ⟨some ⟨wr.heap.size, 0, none⟩, 0, ?_, ?_, by first | exact unhide HB2 | exact ⟨fun _ => trivial, unhide HB2⟩⟩
        · rw [unhide HZ1]; rfl
        · rw [unhide HZ1]; exact unhide O2

end Go.Proofs.Ytfahhjgpgccdhac
