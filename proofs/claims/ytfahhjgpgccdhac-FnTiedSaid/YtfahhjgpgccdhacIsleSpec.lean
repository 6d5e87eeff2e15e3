/-
  What the model's Islands answers: the islands of the net. At every net; nothing that was there is written.
-/
import Derived.Test.YtfahhjgpgccdhacIsleIn
import Derived.Test.YtfahhjgpgccdhacLastSpec
namespace Go.Proofs.Ytfahhjgpgccdhac
open Go.RowKit

set_option maxRecDepth 20000 in
set_option maxHeartbeats 4000000 in
theorem specIslands_any (n : Int) (a1 a2 a3 : Option Addr) (l1 c1 l2 c2 l3 c3 : Nat) (ss : List Sr) (ts : List Ti) (us : List Us) (w : World) (hr : NetIn w a1 a2 a3 l1 l2 l3 ss ts us) :
    Calls Try.prog 79 #[.agg #[.int .i64 n, .slice a1 l1 c1, .slice a2 l2 c2, .slice a3 l3 c3]] w fun x w' => ∃ a c, x = .returned (.tuple #[.slice a (isleL n ss ts us).length c, .bool (netB n ss ts us)]) ∧ OwnI w' w.heap.size (.slice a (isleL n ss ts us).length c) (isleL n ss ts us) ∧ (netB n ss ts us = true → IsIsle n.toNat ts (isleL n ss ts us)) ∧ Below w.heap.size w w' := by
  have KP := hide (Blk.new (w := w) [.int .i64 n, .slice a1 l1 c1, .slice a2 l2 c2, .slice a3 l3 c3] 44)
  have HB := hide (bel1 (w := w) (Obj.cells #[.int .i64 n, .slice a1 l1 c1, .slice a2 l2 c2, .slice a3 l3 c3] 44))
  have R := hide (hr.below (unhide HB))
  have Z2 := hide hr.r2.len_eq
  clear hr
  cases hb : netB n ss ts us with
  | false =>
    have HL := hide (isleL_no hb)
    rw [unhide HL]
    go_enter Try.func79, Try.ntmps79
    go_wp2_with fail
    refine (specNetOk_is n a1 a2 a3 l1 c1 l2 c2 l3 c3 ss ts us _ (unhide R) hb).mono ?_
    rintro x w1 ⟨rfl, b⟩
    have B1 := hide ((unhide HB).trans (b.mono (unhide HB).size))
    have O1 := hide (ownI_none (w := w) (w1 := w1) (unhide B1).size)
    have B2 := hide ((unhide B1).trans ((bel1 (w := w1) (Obj.cells #[] 3)).mono (unhide B1).size))
    clear b
    go_wp2_with fail
    go_ret2
    exact ⟨_, _, rfl, unhide O1, fun h => by simp at h, unhide B2⟩
  | true =>
    have HBT := hide hb
    obtain ⟨N, rfl⟩ : ∃ N : Nat, n = N := ⟨n.toNat, by have := in_facts (netB_parts hb).1; omega⟩
    have hN := in_facts (netB_parts hb).1
    have hl16 : l2 ≤ 16 := by
      have h := (netB_parts hb).2.2.1
      simp only [tsB, Bool.and_eq_true, decide_eq_true_eq] at h
      rw [← unhide Z2]; exact h.1
    go_enter Try.func79, Try.ntmps79
    go_wp2_with fail
    refine (specNetOk_is (N : Int) a1 a2 a3 l1 c1 l2 c2 l3 c3 ss ts us _ (unhide R) hb).mono ?_
    rintro x w1 ⟨rfl, b⟩
    have HB1 := hide ((unhide HB).trans (b.mono (unhide HB).size))
    have KP1 := hide ((unhide KP).below b)
    have RR := hide ((unhide R).below b)
    have sB : w.heap.size ≤ w1.heap.size := (unhide HB1).size
    clear HB KP R
    have O0 := hide (ownI_none (w := w1) (w1 := w1) (Nat.le_refl _))
    clear b hb
    go_wp2_with fail
    go_loopw [4, 5] (fun ov i wr => ∃ k g c : Nat, ov = .slice (some ⟨g, 0, none⟩) k c ∧ i = .int .i64 (k : Int) ∧ k ≤ N ∧ Below w1.heap.size w1 wr ∧ OwnI wr w1.heap.size (.slice (some ⟨g, 0, none⟩) k c) (idL k)) (fun _ i _ => N - (intOf i).toNat)
    case atStart => exact ⟨0, _, _, rfl, rfl, Nat.zero_le _, bel1 _, unhide O0⟩
    case round =>
      clear O0
      obtain ⟨k, g, c, rfl, rfl, hk, hbel, hO⟩ := hrel
      have kb := (unhide KP1).below hbel
      have m0 : wr.cell? ⟨w.heap.size, 0, none⟩ = some (.int .i64 (N : Int)) := kb.c 0 (by simp)
      have OO := hide hO
      have BB := hide hbel
      have hsz := hbel.size
      clear kb hbel hO
      by_cases hlt : k < N
      · have hlt' : (k : Int) < (N : Int) := by omega
        obtain ⟨vs, hown, hvx⟩ := (unhide OO).own
        rw [idL_len] at hown hvx
        have hbA := bel1 (w := wr) (Obj.cells #[Value.int IntKind.i64 (k : Int)] 3)
        have hownA := ownsRow_below hown hbA
        have hnews := World.news_of_block (heap_alloc_new wr (Obj.cells #[Value.int IntKind.i64 (k : Int)] 3))
        have HVX := hide hvx
        have HVL := hide hown.1
        obtain ⟨i0, hii, hz0, hz1, hz2⟩ := info_parts info_int1
        clear hown hvx
        go_wp2_with (at_builtin; refine wpList_append_lies _ rfl _ _ 46 rfl w1.heap.size 3 i0 (.int .i64 0) 1 8 Try.underlying46 hii hz0 hz1 hz2 rfl (by decide) (.slice (some ⟨g, 0, none⟩) k c) k vs rfl hownA ⟨wr.heap.size, 0, none⟩ 1 1 [.int .i64 (k : Int)] rfl rfl hnews (by simp [Value.oneCell']) (by decide) (by unfold maxLen; omega) (by omega) (by simp; omega) _ rfl ?_; intro g' cap' w9 hown9 hgrow hat hlt9)
        have hb9 : Below w1.heap.size w1 w9 := ((unhide BB).trans (hbA.mono hsz)).grown hgrow (by simp; omega) (fun j hj => ((unhide OO).lies j hj).1)
        refine ⟨⟨k + 1, g', cap', rfl, by go_num, by omega, hb9, ?_⟩, by simp [intOf]; omega⟩
        exact ownI_app (Z := idL k) (by rw [idL_len]; exact hown9) (by rw [idL_len]; exact unhide HVL) (by rw [idL_len]; exact unhide HVX) (unhide OO).fit (by omega)
      · obtain rfl : k = N := by omega
        have hlt' : ¬ (k : Int) < (k : Int) := by omega
        have hg : w1.heap.size ≤ g := ((unhide OO).lies g rfl).1
        have IN0 := hide (show IsleIn w1 wr g c k ts (idL k) from ⟨unhide BB, unhide OO, idL_to k ts⟩)
        clear OO BB hlt
        go_wp2_with fail
        go_loopw [6] (fun av wr => ∃ (G : Bool) (zs : List Int), av = .bool G ∧ Hid (IsleIn w1 wr g c k ts zs) ∧ Hid (G = false → ∀ j, j < ts.length → (elAt ts j).a2 = true → nth zs (elAt ts j).a0.toNat = nth zs (elAt ts j).a1.toNat)) (fun av wr => match av with | .bool true => sumAt wr g k + 1 | _ => 0)
        case atStart => exact ⟨true, idL k, rfl, IN0, hide (fun h => by cases h)⟩
        case round =>
          clear IN0
          obtain ⟨G, zs, rfl, IN, HS⟩ := hrel
          cases G with
          | false =>
            have HI := hide (show IsIsle k ts zs from ⟨(unhide IN).to_, unhide HS rfl⟩)
            have HE : Hid (isleL (k : Int) ss ts us = zs) := hide (by rw [isleL_yes (unhide HBT), Int.toNat_natCast]; exact (unhide HI).eq.symm)
            have HZ := hide (unhide IN).to_.len
            have HO := hide ((unhide IN).own.mono sB)
            have HF := hide ((unhide HB1).trans ((unhide IN).bel.mono sB))
            clear IN HS
            go_wp2_with fail
            go_ret2
            refine ⟨some ⟨g, 0, none⟩, c, ?_, ?_, ?_, unhide HF⟩
            · rw [unhide HE, unhide HZ]; rfl
            · rw [unhide HE, unhide HZ]; exact unhide HO
            · intro _; rw [unhide HE, Int.toNat_natCast]; exact unhide HI
          | true =>
            have HM : Hid (sumAt wr g k = sumZ zs) := hide (sumAt_own (unhide IN).own (unhide IN).to_.len)
            clear HS
            go_wp2_with fail
            go_loopw [6, 7] (fun av i wr => ∃ (q : Nat) (G : Bool) (ys : List Int), av = .bool G ∧ i = .int .i64 (q : Int) ∧ q ≤ l2 ∧ Hid (IsleIn w1 wr g c k ts ys) ∧ Hid ((G = true → sumZ ys < sumZ zs) ∧ (G = false → ys = zs ∧ ∀ j, j < q → (elAt ts j).a2 = true → nth ys (elAt ts j).a0.toNat = nth ys (elAt ts j).a1.toNat))) (fun _ i _ => l2 - (intOf i).toNat)
            case atStart => exact ⟨0, false, zs, rfl, rfl, Nat.zero_le _, IN, hide ⟨fun h => (by cases h), fun _ => ⟨rfl, fun j hj => by omega⟩⟩⟩
            case round =>
              clear IN
              obtain ⟨q, G, ys, rfl, rfl, hq, JN, HQ⟩ := hrel
              have kb := (unhide KP1).below (unhide JN).bel
              have m2 : wr.cell? ⟨w.heap.size, 2, none⟩ = some (.slice a2 l2 c2) := kb.c 2 (by simp)
              clear kb
              by_cases hlt : q < l2
              · have hlt' : (q : Int) < (l2 : Int) := by omega
                have hi0 : (0 : Int) ≤ (q : Int) := by omega
                have HLT := hide (show q < ts.length by rw [unhide Z2]; exact hlt)
                obtain ⟨f0, f1, f2⟩ := tie_facts (unhide HBT) (unhide HLT)
                obtain ⟨A, hA⟩ : ∃ A : Nat, (elAt ts q).a0 = A := ⟨(elAt ts q).a0.toNat, by omega⟩
                obtain ⟨B, hB⟩ : ∃ B : Nat, (elAt ts q).a1 = B := ⟨(elAt ts q).a1.toNat, by omega⟩
                rcases (unhide RR).r2.open_ with ⟨h0, _⟩ | ⟨bb, off, rfl, _, hc⟩
                · omega
                have e0 : w1.cell? ⟨bb, off + q * 3, none⟩ = some (.int .i64 (elAt ts q).a0) := hc q hlt 0 (by omega)
                have e1 : w1.cell? ⟨bb, off + q * 3 + 1, none⟩ = some (.int .i64 (elAt ts q).a1) := hc q hlt 1 (by omega)
                have e2 : w1.cell? ⟨bb, off + q * 3 + 2, none⟩ = some (.bool (elAt ts q).a2) := hc q hlt 2 (by omega)
                have e0 := ((unhide JN).bel.cell (block_lt_of_cell e0)).trans e0
                have e1 := ((unhide JN).bel.cell (block_lt_of_cell e1)).trans e1
                have e2 := ((unhide JN).bel.cell (block_lt_of_cell e2)).trans e2
                rw [hA] at e0 f0 f2
                rw [hB] at e1 f1 f2
                have HA := hide hA
                have HBB := hide hB
                have hAN : (A : Int) < (k : Int) := by omega
                have hBN : (B : Int) < (k : Int) := by omega
                have HAB : Hid (A ≠ B) := hide (by omega)
                have HAk : Hid (A < k) := hide (by omega)
                have HBk : Hid (B < k) := hide (by omega)
                obtain ⟨o0, z0⟩ := (unhide JN).here (unhide HAk)
                obtain ⟨o1, z1⟩ := (unhide JN).here (unhide HBk)
                have bA := (unhide JN).to_.low A (unhide HAk)
                have bB := (unhide JN).to_.low B (unhide HBk)
                have hA0 : (0 : Int) ≤ (A : Int) := by omega
                have hB0 : (0 : Int) ≤ (B : Int) := by omega
                clear hc hA hB f0 f1 f2
                cases hcl : (elAt ts q).a2 with
                | false =>
                  rw [hcl] at e2
                  have HQ1 : Hid ((G = true → sumZ ys < sumZ zs) ∧ (G = false → ys = zs ∧ ∀ j, j < q + 1 → (elAt ts j).a2 = true → nth ys (elAt ts j).a0.toNat = nth ys (elAt ts j).a1.toNat)) := hide ⟨(unhide HQ).1, fun h => ⟨((unhide HQ).2 h).1, fun j hj hc => by
                    rcases Nat.lt_succ_iff_lt_or_eq.1 hj with h1 | h1
                    · exact ((unhide HQ).2 h).2 j h1 hc
                    · subst h1; rw [hcl] at hc; cases hc⟩⟩
                  go_wp2_with fail
                  go_quiet (fail)
                  go_wp2_with fail
                  go_quiet (fail)
                  go_wp2_with fail
                  go_roundw
                  case rel => exact ⟨q + 1, G, ys, rfl, by go_num, by omega, hide ((unhide JN).drewN _), HQ1⟩
                  case measure => simp [intOf]; omega
                | true =>
                  rw [hcl] at e2
                  by_cases he : nth ys A = nth ys B
                  · rw [← he] at o1
                    have HEQ := hide he
                    have HQ1 : Hid ((G = true → sumZ ys < sumZ zs) ∧ (G = false → ys = zs ∧ ∀ j, j < q + 1 → (elAt ts j).a2 = true → nth ys (elAt ts j).a0.toNat = nth ys (elAt ts j).a1.toNat)) := hide ⟨(unhide HQ).1, fun h => ⟨((unhide HQ).2 h).1, fun j hj hc => by
                      rcases Nat.lt_succ_iff_lt_or_eq.1 hj with h1 | h1
                      · exact ((unhide HQ).2 h).2 j h1 hc
                      · subst h1; rw [unhide HA, unhide HBB, Int.toNat_natCast, Int.toNat_natCast]; exact unhide HEQ⟩⟩
                    clear he
                    go_wp2_with fail
                    go_quiet (fail)
                    go_wp2_with fail
                    go_quiet (fail)
                    go_wp2_with fail
                    go_roundw
                    case rel => exact ⟨q + 1, G, ys, rfl, by go_num, by omega, hide ((unhide JN).drewN _), HQ1⟩
                    case measure => simp [intOf]; omega
                  · have J2 := hide ((unhide JN).join (unhide HLT) hcl (unhide HA) (unhide HBB) (unhide HAk) (unhide HBk) hg)
                    have HSUM : Hid (sumZ (joinT ys A B) < sumZ zs) := hide (by
                      have hl := (unhide JN).to_.len
                      have h1 := joinT_sum (zs := ys) (a := A) (b := B) (by rw [hl]; exact unhide HAk) (by rw [hl]; exact unhide HBk) (unhide HAB) bA.1 bB.1 he
                      have h2 : sumZ ys ≤ sumZ zs := by
                        cases G with
                        | true => exact Nat.le_of_lt ((unhide HQ).1 rfl)
                        | false => rw [((unhide HQ).2 rfl).1]; exact Nat.le_refl _
                      omega)
                    have hAB : ¬ A = B := unhide HAB
                    have hBA : ¬ B = A := fun e => unhide HAB e.symm
                    go_wp2_with fail
                    go_quiet (fail)
                    go_wp2_with fail
                    go_quiet (fail)
                    go_wp2_with fail
                    go_quiet ((go_at_call 84; exact quietSame (l1MinB_any _ _ _)))
                    go_wp2_with fail
                    go_roundw
                    case rel => exact ⟨q + 1, true, joinT ys A B, rfl, by go_num, by omega, hide ((unhide J2).drewN _), hide ⟨fun _ => unhide HSUM, fun h => by cases h⟩⟩
                    case measure => simp [intOf]; omega
              · obtain rfl : q = l2 := by omega
                have hlt' : ¬ (q : Int) < (q : Int) := by omega
                have HS1 : Hid (G = false → ∀ j, j < ts.length → (elAt ts j).a2 = true → nth ys (elAt ts j).a0.toNat = nth ys (elAt ts j).a1.toNat) := hide fun h j hj => ((unhide HQ).2 h).2 j (by rw [unhide Z2] at hj; exact hj)
                have HM1 : Hid (sumAt wr g k = sumZ ys) := hide (sumAt_own (unhide JN).own (unhide JN).to_.len)
                go_wp2_with fail
                go_roundw
                case rel => exact ⟨G, ys, rfl, JN, HS1⟩
                case measure =>
                  cases G with
                  | false => simp
                  | true =>
                    have := (unhide HQ).1 rfl
                    simp only [unhide HM, unhide HM1]
                    omega

end Go.Proofs.Ytfahhjgpgccdhac
