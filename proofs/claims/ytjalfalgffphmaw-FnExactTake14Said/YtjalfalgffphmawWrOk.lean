/-
  Whether rules of warnings are so, in the model: the plain answer, at every list; nothing that was there is written.
-/
import Derived.Test.YtjalfalgffphmawWrSpec
import Derived.Test.YtjalfalgffphmawNameIs
import Derived.Laws.Cover1
namespace Go.Proofs.Ytjalfalgffphmaw
open Go.RowKit

set_option maxRecDepth 20000 in
set_option maxHeartbeats 1000000 in
theorem specRulesOk_any (ad : Option Addr) (len cap : Nat) (rs : List Wr) (w : World) (hr : RowW w ad len rs) (hl : len ≤ 1048576) :
    Calls Try.prog 28 #[.slice ad len cap] w fun e w' => e = .returned (.bool (wrB rs)) ∧ Below w.heap.size w w' := by
  have hz := hr.len_eq
  have HR := hide hr
  have HO := hide hr.open_
  clear hr
  subst hz
  go_enter Try.func28, Try.ntmps28
  go_wp2_with fail
  go_loopw [3] (fun s3 wr => ∃ i : Nat, i ≤ rs.length ∧ s3 = .int .i64 (i : Int) ∧ Hid (∀ j, j < i → wrAtB rs j = true) ∧ Hid (Below w.heap.size w wr)) (fun s3 _ => rs.length - (intOf s3).toNat)
  case atStart => exact ⟨0, Nat.zero_le _, rfl, hide (fun j hj => by omega), hide (Below.refl _ _)⟩
  case round =>
    obtain ⟨i, hi, rfl, HN, HB⟩ := hrel
    by_cases hlt : i < rs.length
    · rcases (unhide HO) with ⟨h0, _⟩ | ⟨bb, off, rfl, _, hc⟩
      · omega
      have HO2 := hide hc
      obtain ⟨qa, ql, qc, hat, hrow, _, hfit⟩ := hc i hlt
      have hat := hat.below (unhide HB)
      have m0 := hat.c0
      have m1 := hat.c1
      have m2 := hat.c2
      have m3 := hat.c3
      have m4 := hat.c4
      have k0 : (0 : Int) ≤ (i : Int) := by omega
      have k1 : (i : Int) < (rs.length : Int) := by omega
      have HQ0 := hide hrow
      obtain ⟨P, hP⟩ : ∃ P, elAt rs i = P := ⟨_, rfl⟩
      have HPP := hide hP
      rw [hP] at m0 m1 m3 m4 HQ0 hfit
      obtain ⟨x, r, q, l, d⟩ := P
      simp only at m0 m1 m3 m4 HQ0
      have HFI : Hid (x.size ≤ 9223372036854775807 ∧ d.size ≤ 9223372036854775807) := hide hfit
      clear hat hrow hfit hP
      by_cases hi0 : i = 0
      · have HV : Hid (wrSB rs i = (nameB x && inB r 1 3 && riseB q && allB q 0 9)) := hide (by unfold wrSB; rw [unhide HPP]; simp [hi0])
        have hz1 : ¬ (0 : Int) < (i : Int) := by omega
        have hz2 : ¬ 0 < i := by omega
        have HI := hide hi0
        clear hc hi0
        rcases four (nameB x) (inB r 1 3) (riseB q) (allB q 0 9) with ⟨e1, hv⟩ | ⟨e1, e3, hv⟩ | ⟨e1, e3, e4, hv⟩ | ⟨e1, e3, e4, e5, hv⟩ | ⟨e1, e3, e4, e5, hv⟩
        · have HE : Hid (wrB rs = false) := hide (wrB_not hlt (by unfold wrAtB; rw [unhide HV, hv]; rfl))
          clear hv
          go_wp2_with fail
          obtain ⟨V, hV⟩ : ∃ W, W = wr.alloc (Obj.cells #[.string x, .int .i64 r, .slice qa ql qc, .bool l, .string d] 56) := ⟨_, rfl⟩
          have KP : Hid (Blk V wr.heap.size [.string x, .int .i64 r, .slice qa ql qc, .bool l, .string d]) := hide (by rw [hV]; exact Blk.new _ _)
          have bV : Below wr.heap.size wr V := by rw [hV]; exact bel1 _
          rw [← hV]
          obtain ⟨ι, f, _, hbf, hall⟩ := belClass V
          have HF := hide hbf
          have HAL := hide hall
          have HBF : Hid (∀ y, Below w.heap.size w (f y)) := hide (fun y => (unhide HB).trans ((bV.trans ((hbf y).mono bV.size)).mono (unhide HB).size))
          have v0 : ∀ y, (f y).cell? ⟨wr.heap.size, 0, none⟩ = some (.string x) := fun y => ((unhide KP).below (hbf y)).c 0 (by simp)
          have v1 : ∀ y, (f y).cell? ⟨wr.heap.size, 1, none⟩ = some (.int .i64 r) := fun y => ((unhide KP).below (hbf y)).c 1 (by simp)
          have v2 : ∀ y, (f y).cell? ⟨wr.heap.size, 2, none⟩ = some (.slice qa ql qc) := fun y => ((unhide KP).below (hbf y)).c 2 (by simp)
          have v4 : ∀ y, (f y).cell? ⟨wr.heap.size, 4, none⟩ = some (.string d) := fun y => ((unhide KP).below (hbf y)).c 4 (by simp)
          have HQ : Hid (∀ y, Row (f y) qa ql q) := hide (fun y => (unhide HQ0).below ((unhide HBF) y))
          have C1 : Hid (∀ W, Calls Try.prog 48 #[.string x] W fun e w' => e = .returned (.bool false) ∧ w' = W) := hide (fun W => by have := l1Name_any x W (unhide HFI).1; rw [e1] at this; exact this)
          have C4 : Hid (∀ y, Calls Try.prog 49 #[.slice qa ql qc] (f y) fun e w' => e = .returned (.bool (riseB q)) ∧ ∃ n, w' = (f y).drewN n) := hide (fun y => l1Rise_any qa ql qc q (f y) (unhide HQ y))
          have C5 : Hid (∀ y, Calls Try.prog 50 #[.slice qa ql qc, .int .i64 0, .int .i64 9] (f y) fun e w' => e = .returned (.bool (allB q 0 9)) ∧ ∃ n, w' = (f y).drewN n) := hide (fun y => l1All_any qa ql qc q 0 9 (f y) (unhide HQ y))
          clear hbf hall hV bV
          refine wp_region_bel (unhide HAL) (by kernel_rfl) (by kernel_rfl) ?_
          repeat (go_big_quiet_step ((first | (go_at_call 48; exact belS (unhide C1 _)) | (go_at_call 40; exact belS (l1In_is _ _ _ _ e3)) | (go_at_call 49; exact belN (unhide HF) (unhide HAL) (unhide C4 _)) | (go_at_call 50; exact belN (unhide HF) (unhide HAL) (unhide C5 _)))))
          refine wpQuiet_nil ?_
          rintro _ ⟨y, rfl⟩
          go_wp2_with fail
          go_ret
          exact ⟨ret_bool (unhide HE).symm, unhide HBF y⟩
        · have HE : Hid (wrB rs = false) := hide (wrB_not hlt (by unfold wrAtB; rw [unhide HV, hv]; rfl))
          clear hv
          go_wp2_with fail
          obtain ⟨V, hV⟩ : ∃ W, W = wr.alloc (Obj.cells #[.string x, .int .i64 r, .slice qa ql qc, .bool l, .string d] 56) := ⟨_, rfl⟩
          have KP : Hid (Blk V wr.heap.size [.string x, .int .i64 r, .slice qa ql qc, .bool l, .string d]) := hide (by rw [hV]; exact Blk.new _ _)
          have bV : Below wr.heap.size wr V := by rw [hV]; exact bel1 _
          rw [← hV]
          obtain ⟨ι, f, _, hbf, hall⟩ := belClass V
          have HF := hide hbf
          have HAL := hide hall
          have HBF : Hid (∀ y, Below w.heap.size w (f y)) := hide (fun y => (unhide HB).trans ((bV.trans ((hbf y).mono bV.size)).mono (unhide HB).size))
          have v0 : ∀ y, (f y).cell? ⟨wr.heap.size, 0, none⟩ = some (.string x) := fun y => ((unhide KP).below (hbf y)).c 0 (by simp)
          have v1 : ∀ y, (f y).cell? ⟨wr.heap.size, 1, none⟩ = some (.int .i64 r) := fun y => ((unhide KP).below (hbf y)).c 1 (by simp)
          have v2 : ∀ y, (f y).cell? ⟨wr.heap.size, 2, none⟩ = some (.slice qa ql qc) := fun y => ((unhide KP).below (hbf y)).c 2 (by simp)
          have v4 : ∀ y, (f y).cell? ⟨wr.heap.size, 4, none⟩ = some (.string d) := fun y => ((unhide KP).below (hbf y)).c 4 (by simp)
          have HQ : Hid (∀ y, Row (f y) qa ql q) := hide (fun y => (unhide HQ0).below ((unhide HBF) y))
          have C1 : Hid (∀ W, Calls Try.prog 48 #[.string x] W fun e w' => e = .returned (.bool true) ∧ w' = W) := hide (fun W => by have := l1Name_any x W (unhide HFI).1; rw [e1] at this; exact this)
          have C4 : Hid (∀ y, Calls Try.prog 49 #[.slice qa ql qc] (f y) fun e w' => e = .returned (.bool (riseB q)) ∧ ∃ n, w' = (f y).drewN n) := hide (fun y => l1Rise_any qa ql qc q (f y) (unhide HQ y))
          have C5 : Hid (∀ y, Calls Try.prog 50 #[.slice qa ql qc, .int .i64 0, .int .i64 9] (f y) fun e w' => e = .returned (.bool (allB q 0 9)) ∧ ∃ n, w' = (f y).drewN n) := hide (fun y => l1All_any qa ql qc q 0 9 (f y) (unhide HQ y))
          clear hbf hall hV bV
          refine wp_region_bel (unhide HAL) (by kernel_rfl) (by kernel_rfl) ?_
          repeat (go_big_quiet_step ((first | (go_at_call 48; exact belS (unhide C1 _)) | (go_at_call 40; exact belS (l1In_is _ _ _ _ e3)) | (go_at_call 49; exact belN (unhide HF) (unhide HAL) (unhide C4 _)) | (go_at_call 50; exact belN (unhide HF) (unhide HAL) (unhide C5 _)))))
          refine wpQuiet_nil ?_
          rintro _ ⟨y, rfl⟩
          go_wp2_with fail
          go_ret
          exact ⟨ret_bool (unhide HE).symm, unhide HBF y⟩
        · have HE : Hid (wrB rs = false) := hide (wrB_not hlt (by unfold wrAtB; rw [unhide HV, hv]; rfl))
          clear hv
          go_wp2_with fail
          obtain ⟨V, hV⟩ : ∃ W, W = wr.alloc (Obj.cells #[.string x, .int .i64 r, .slice qa ql qc, .bool l, .string d] 56) := ⟨_, rfl⟩
          have KP : Hid (Blk V wr.heap.size [.string x, .int .i64 r, .slice qa ql qc, .bool l, .string d]) := hide (by rw [hV]; exact Blk.new _ _)
          have bV : Below wr.heap.size wr V := by rw [hV]; exact bel1 _
          rw [← hV]
          obtain ⟨ι, f, _, hbf, hall⟩ := belClass V
          have HF := hide hbf
          have HAL := hide hall
          have HBF : Hid (∀ y, Below w.heap.size w (f y)) := hide (fun y => (unhide HB).trans ((bV.trans ((hbf y).mono bV.size)).mono (unhide HB).size))
          have v0 : ∀ y, (f y).cell? ⟨wr.heap.size, 0, none⟩ = some (.string x) := fun y => ((unhide KP).below (hbf y)).c 0 (by simp)
          have v1 : ∀ y, (f y).cell? ⟨wr.heap.size, 1, none⟩ = some (.int .i64 r) := fun y => ((unhide KP).below (hbf y)).c 1 (by simp)
          have v2 : ∀ y, (f y).cell? ⟨wr.heap.size, 2, none⟩ = some (.slice qa ql qc) := fun y => ((unhide KP).below (hbf y)).c 2 (by simp)
          have v4 : ∀ y, (f y).cell? ⟨wr.heap.size, 4, none⟩ = some (.string d) := fun y => ((unhide KP).below (hbf y)).c 4 (by simp)
          have HQ : Hid (∀ y, Row (f y) qa ql q) := hide (fun y => (unhide HQ0).below ((unhide HBF) y))
          have C1 : Hid (∀ W, Calls Try.prog 48 #[.string x] W fun e w' => e = .returned (.bool true) ∧ w' = W) := hide (fun W => by have := l1Name_any x W (unhide HFI).1; rw [e1] at this; exact this)
          have C4 : Hid (∀ y, Calls Try.prog 49 #[.slice qa ql qc] (f y) fun e w' => e = .returned (.bool (riseB q)) ∧ ∃ n, w' = (f y).drewN n) := hide (fun y => l1Rise_any qa ql qc q (f y) (unhide HQ y))
          have C5 : Hid (∀ y, Calls Try.prog 50 #[.slice qa ql qc, .int .i64 0, .int .i64 9] (f y) fun e w' => e = .returned (.bool (allB q 0 9)) ∧ ∃ n, w' = (f y).drewN n) := hide (fun y => l1All_any qa ql qc q 0 9 (f y) (unhide HQ y))
          rw [e4] at C4
          clear hbf hall hV bV
          refine wp_region_bel (unhide HAL) (by kernel_rfl) (by kernel_rfl) ?_
          repeat (go_big_quiet_step ((first | (go_at_call 48; exact belS (unhide C1 _)) | (go_at_call 40; exact belS (l1In_is _ _ _ _ e3)) | (go_at_call 49; exact belN (unhide HF) (unhide HAL) (unhide C4 _)) | (go_at_call 50; exact belN (unhide HF) (unhide HAL) (unhide C5 _)))))
          refine wpQuiet_nil ?_
          rintro _ ⟨y, rfl⟩
          go_wp2_with fail
          go_ret
          exact ⟨ret_bool (unhide HE).symm, unhide HBF y⟩
        · have HE : Hid (wrB rs = false) := hide (wrB_not hlt (by unfold wrAtB; rw [unhide HV, hv]; rfl))
          clear hv
          go_wp2_with fail
          obtain ⟨V, hV⟩ : ∃ W, W = wr.alloc (Obj.cells #[.string x, .int .i64 r, .slice qa ql qc, .bool l, .string d] 56) := ⟨_, rfl⟩
          have KP : Hid (Blk V wr.heap.size [.string x, .int .i64 r, .slice qa ql qc, .bool l, .string d]) := hide (by rw [hV]; exact Blk.new _ _)
          have bV : Below wr.heap.size wr V := by rw [hV]; exact bel1 _
          rw [← hV]
          obtain ⟨ι, f, _, hbf, hall⟩ := belClass V
          have HF := hide hbf
          have HAL := hide hall
          have HBF : Hid (∀ y, Below w.heap.size w (f y)) := hide (fun y => (unhide HB).trans ((bV.trans ((hbf y).mono bV.size)).mono (unhide HB).size))
          have v0 : ∀ y, (f y).cell? ⟨wr.heap.size, 0, none⟩ = some (.string x) := fun y => ((unhide KP).below (hbf y)).c 0 (by simp)
          have v1 : ∀ y, (f y).cell? ⟨wr.heap.size, 1, none⟩ = some (.int .i64 r) := fun y => ((unhide KP).below (hbf y)).c 1 (by simp)
          have v2 : ∀ y, (f y).cell? ⟨wr.heap.size, 2, none⟩ = some (.slice qa ql qc) := fun y => ((unhide KP).below (hbf y)).c 2 (by simp)
          have v4 : ∀ y, (f y).cell? ⟨wr.heap.size, 4, none⟩ = some (.string d) := fun y => ((unhide KP).below (hbf y)).c 4 (by simp)
          have HQ : Hid (∀ y, Row (f y) qa ql q) := hide (fun y => (unhide HQ0).below ((unhide HBF) y))
          have C1 : Hid (∀ W, Calls Try.prog 48 #[.string x] W fun e w' => e = .returned (.bool true) ∧ w' = W) := hide (fun W => by have := l1Name_any x W (unhide HFI).1; rw [e1] at this; exact this)
          have C4 : Hid (∀ y, Calls Try.prog 49 #[.slice qa ql qc] (f y) fun e w' => e = .returned (.bool (riseB q)) ∧ ∃ n, w' = (f y).drewN n) := hide (fun y => l1Rise_any qa ql qc q (f y) (unhide HQ y))
          have C5 : Hid (∀ y, Calls Try.prog 50 #[.slice qa ql qc, .int .i64 0, .int .i64 9] (f y) fun e w' => e = .returned (.bool (allB q 0 9)) ∧ ∃ n, w' = (f y).drewN n) := hide (fun y => l1All_any qa ql qc q 0 9 (f y) (unhide HQ y))
          rw [e4] at C4
          rw [e5] at C5
          clear hbf hall hV bV
          refine wp_region_bel (unhide HAL) (by kernel_rfl) (by kernel_rfl) ?_
          repeat (go_big_quiet_step ((first | (go_at_call 48; exact belS (unhide C1 _)) | (go_at_call 40; exact belS (l1In_is _ _ _ _ e3)) | (go_at_call 49; exact belN (unhide HF) (unhide HAL) (unhide C4 _)) | (go_at_call 50; exact belN (unhide HF) (unhide HAL) (unhide C5 _)))))
          refine wpQuiet_nil ?_
          rintro _ ⟨y, rfl⟩
          go_wp2_with fail
          go_ret
          exact ⟨ret_bool (unhide HE).symm, unhide HBF y⟩
        · have HS : Hid (wrSB rs i = true) := hide (by rw [unhide HV, hv])
          clear hv
          go_wp2_with fail
          obtain ⟨V, hV⟩ : ∃ W, W = wr.alloc (Obj.cells #[.string x, .int .i64 r, .slice qa ql qc, .bool l, .string d] 56) := ⟨_, rfl⟩
          have KP : Hid (Blk V wr.heap.size [.string x, .int .i64 r, .slice qa ql qc, .bool l, .string d]) := hide (by rw [hV]; exact Blk.new _ _)
          have bV : Below wr.heap.size wr V := by rw [hV]; exact bel1 _
          rw [← hV]
          obtain ⟨ι, f, _, hbf, hall⟩ := belClass V
          have HF := hide hbf
          have HAL := hide hall
          have HBF : Hid (∀ y, Below w.heap.size w (f y)) := hide (fun y => (unhide HB).trans ((bV.trans ((hbf y).mono bV.size)).mono (unhide HB).size))
          have v0 : ∀ y, (f y).cell? ⟨wr.heap.size, 0, none⟩ = some (.string x) := fun y => ((unhide KP).below (hbf y)).c 0 (by simp)
          have v1 : ∀ y, (f y).cell? ⟨wr.heap.size, 1, none⟩ = some (.int .i64 r) := fun y => ((unhide KP).below (hbf y)).c 1 (by simp)
          have v2 : ∀ y, (f y).cell? ⟨wr.heap.size, 2, none⟩ = some (.slice qa ql qc) := fun y => ((unhide KP).below (hbf y)).c 2 (by simp)
          have v4 : ∀ y, (f y).cell? ⟨wr.heap.size, 4, none⟩ = some (.string d) := fun y => ((unhide KP).below (hbf y)).c 4 (by simp)
          have HQ : Hid (∀ y, Row (f y) qa ql q) := hide (fun y => (unhide HQ0).below ((unhide HBF) y))
          have C1 : Hid (∀ W, Calls Try.prog 48 #[.string x] W fun e w' => e = .returned (.bool true) ∧ w' = W) := hide (fun W => by have := l1Name_any x W (unhide HFI).1; rw [e1] at this; exact this)
          have C4 : Hid (∀ y, Calls Try.prog 49 #[.slice qa ql qc] (f y) fun e w' => e = .returned (.bool (riseB q)) ∧ ∃ n, w' = (f y).drewN n) := hide (fun y => l1Rise_any qa ql qc q (f y) (unhide HQ y))
          have C5 : Hid (∀ y, Calls Try.prog 50 #[.slice qa ql qc, .int .i64 0, .int .i64 9] (f y) fun e w' => e = .returned (.bool (allB q 0 9)) ∧ ∃ n, w' = (f y).drewN n) := hide (fun y => l1All_any qa ql qc q 0 9 (f y) (unhide HQ y))
          rw [e4] at C4
          rw [e5] at C5
          clear hbf hall hV bV
          refine wp_region_bel (unhide HAL) (by kernel_rfl) (by kernel_rfl) ?_
          repeat (go_big_quiet_step ((first | (go_at_call 48; exact belS (unhide C1 _)) | (go_at_call 40; exact belS (l1In_is _ _ _ _ e3)) | (go_at_call 49; exact belN (unhide HF) (unhide HAL) (unhide C4 _)) | (go_at_call 50; exact belN (unhide HF) (unhide HAL) (unhide C5 _)))))
          refine wpQuiet_nil ?_
          rintro _ ⟨y, rfl⟩
          obtain ⟨U, hU⟩ : ∃ U, U = f y := ⟨_, rfl⟩
          have u4 := v4 y
          have HBU := hide (unhide HBF y)
          rw [← hU] at u4 HBU ⊢
          have RU := hide ((unhide HR).below (unhide HBU))
          clear v0 v1 v2 v4 C1 C4 C5 HBF HF HAL HQ KP hU
          have e0 : (⟨#[]⟩ : ByteArray).toList = [] := by simp
          cases g : (d.toList == []) with
          | true =>
            have HA : Hid (wrAtB rs i = true) := hide (by unfold wrAtB wrDB sEq; rw [unhide HS, unhide HPP]; simp only [e0]; rw [g]; rfl)
            go_wp2_with fail
            go_roundw
            case rel => exact ⟨i + 1, by omega, by go_num, hide (fun j hj => by rcases Nat.lt_succ_iff_lt_or_eq.1 hj with h | h; exact unhide HN j h; subst h; exact unhide HA), HBU⟩
            case measure => simp [intOf]; omega
          | false =>
            have HD : Hid (wrAtB rs i = (decide (wfK rs d < rs.length) && decide (¬ wfK rs d = i) && sEq (elAt rs (wfK rs d)).d ⟨#[]⟩)) := hide (by
              have : sEq d ⟨#[]⟩ = false := by unfold sEq; rw [e0]; exact g
              unfold wrAtB wrDB; rw [unhide HS, unhide HPP]; simp only [this, Bool.false_or, Bool.true_and])
            have HI0 : Hid (wfI rs d = if wfK rs d < rs.length then (wfK rs d : Int) else -1) := hide rfl
            have HLE := hide (wfK_le rs d)
            have HFN : Hid (∀ W, RowW W (some ⟨bb, off, none⟩) rs.length rs → Calls Try.prog 45 #[.slice (some ⟨bb, off, none⟩) rs.length cap, .string d] W fun e w' => e = .returned (.int .i64 (wfI rs d)) ∧ w' = W) := hide (fun W hr => l14Find_any _ _ cap rs d W hr hl)
            obtain ⟨K, hK⟩ : ∃ K, wfK rs d = K := ⟨_, rfl⟩
            rw [hK] at HD HI0 HLE
            clear hK
            by_cases hk : K < rs.length
            · rw [if_pos hk] at HI0
              rw [unhide HI0] at HFN
              have hk0 : ¬ (K : Int) < 0 := by omega
              have hk1 : (0 : Int) ≤ (K : Int) := by omega
              have hk2 : (K : Int) < (rs.length : Int) := by omega
              by_cases hki : K = i
              · have HE : Hid (wrB rs = false) := hide (wrB_not hlt (by rw [unhide HD]; simp [hki]))
                have hki2 : ((K : Int) == (i : Int)) = true := by simp [hki]
                have HKI := hide hki
                clear hki
                go_wp2_with (go_at_call 45; refine ((unhide HFN) _ (unhide RU)).mono ?_; rintro e w' ⟨rfl, hw⟩; subst w')
                go_ret
                exact ⟨ret_bool (unhide HE).symm, unhide HBU⟩
              · have hki2 : ((K : Int) == (i : Int)) = false := by simp; omega
                obtain ⟨qa2, ql2, qc2, hat2, _, _, _⟩ := (unhide HO2) K hk
                have hat2 := hat2.below (unhide HBU)
                have z4 := hat2.c4
                obtain ⟨dd, hdd⟩ : ∃ dd, (elAt rs K).d = dd := ⟨_, rfl⟩
                rw [hdd] at z4
                rw [hdd] at HD
                have HKI := hide hki
                clear hat2 hdd
                cases g3 : (dd.toList == []) with
                | true =>
                  have HA : Hid (wrAtB rs i = true) := hide (by rw [unhide HD]; unfold sEq; simp only [e0]; rw [g3]; simp [hk, hki])
                  clear hki
                  go_wp2_with (go_at_call 45; refine ((unhide HFN) _ (unhide RU)).mono ?_; rintro e w' ⟨rfl, hw⟩; subst w')
                  go_roundw
                  case rel => exact ⟨i + 1, by omega, by go_num, hide (fun j hj => by rcases Nat.lt_succ_iff_lt_or_eq.1 hj with h | h; exact unhide HN j h; subst h; exact unhide HA), HBU⟩
                  case measure => simp [intOf]; omega
                | false =>
                  have HE : Hid (wrB rs = false) := hide (wrB_not hlt (by rw [unhide HD]; unfold sEq; simp only [e0]; rw [g3]; simp))
                  clear hki
                  go_wp2_with (go_at_call 45; refine ((unhide HFN) _ (unhide RU)).mono ?_; rintro e w' ⟨rfl, hw⟩; subst w')
                  go_ret
                  exact ⟨ret_bool (unhide HE).symm, unhide HBU⟩
            · rw [if_neg hk] at HI0
              rw [unhide HI0] at HFN
              have HE : Hid (wrB rs = false) := hide (wrB_not hlt (by rw [unhide HD]; simp [hk]))
              go_wp2_with (go_at_call 45; refine ((unhide HFN) _ (unhide RU)).mono ?_; rintro e w' ⟨rfl, hw⟩; subst w')
              go_ret
              exact ⟨ret_bool (unhide HE).symm, unhide HBU⟩
      · obtain ⟨j, hj⟩ : ∃ j, i = j + 1 := ⟨i - 1, by omega⟩
        obtain ⟨qa', ql', qc', hat', _, _, _⟩ := hc j (by omega)
        obtain ⟨z, hzz⟩ : ∃ z, (elAt rs j).n = z := ⟨_, rfl⟩
        have z0 := hat'.c0
        rw [hzz] at z0
        have HZ := hide z0
        have HV : Hid (wrSB rs i = (nameB x && Op.bytesLess z.toList x.toList && inB r 1 3 && riseB q && allB q 0 9)) := hide (by unfold wrSB; rw [unhide HPP, hj, Nat.add_sub_cancel, hzz]; simp [sLt])
        have hsub : (i : Int) - 1 = (j : Int) := by omega
        have hwr : IntKind.i64.wrap (j : Int) = (j : Int) := by rw [IntKind.wrap_i64]; omega
        have hj0 : (0 : Int) ≤ (j : Int) := by omega
        have hj1 : (j : Int) < (rs.length : Int) := by omega
        have hz1 : (0 : Int) < (i : Int) := by omega
        have hz2 : 0 < i := by omega
        have HJ := hide hj
        clear hc hi0 hj hzz z0 hat'
        rcases five (nameB x) (Op.bytesLess z.toList x.toList) (inB r 1 3) (riseB q) (allB q 0 9) with ⟨e1, hv⟩ | ⟨e1, e2, hv⟩ | ⟨e1, e2, e3, hv⟩ | ⟨e1, e2, e3, e4, hv⟩ | ⟨e1, e2, e3, e4, e5, hv⟩ | ⟨e1, e2, e3, e4, e5, hv⟩
        · have HE : Hid (wrB rs = false) := hide (wrB_not hlt (by unfold wrAtB; rw [unhide HV, hv]; rfl))
          clear hv
          go_wp2_with fail
          obtain ⟨V, hV⟩ : ∃ W, W = wr.alloc (Obj.cells #[.string x, .int .i64 r, .slice qa ql qc, .bool l, .string d] 56) := ⟨_, rfl⟩
          have KP : Hid (Blk V wr.heap.size [.string x, .int .i64 r, .slice qa ql qc, .bool l, .string d]) := hide (by rw [hV]; exact Blk.new _ _)
          have bV : Below wr.heap.size wr V := by rw [hV]; exact bel1 _
          rw [← hV]
          obtain ⟨ι, f, _, hbf, hall⟩ := belClass V
          have HF := hide hbf
          have HAL := hide hall
          have HBF : Hid (∀ y, Below w.heap.size w (f y)) := hide (fun y => (unhide HB).trans ((bV.trans ((hbf y).mono bV.size)).mono (unhide HB).size))
          have v0 : ∀ y, (f y).cell? ⟨wr.heap.size, 0, none⟩ = some (.string x) := fun y => ((unhide KP).below (hbf y)).c 0 (by simp)
          have v1 : ∀ y, (f y).cell? ⟨wr.heap.size, 1, none⟩ = some (.int .i64 r) := fun y => ((unhide KP).below (hbf y)).c 1 (by simp)
          have v2 : ∀ y, (f y).cell? ⟨wr.heap.size, 2, none⟩ = some (.slice qa ql qc) := fun y => ((unhide KP).below (hbf y)).c 2 (by simp)
          have v4 : ∀ y, (f y).cell? ⟨wr.heap.size, 4, none⟩ = some (.string d) := fun y => ((unhide KP).below (hbf y)).c 4 (by simp)
          have HQ : Hid (∀ y, Row (f y) qa ql q) := hide (fun y => (unhide HQ0).below ((unhide HBF) y))
          have n0 : ∀ y, (f y).cell? ⟨bb, off + j * 5, none⟩ = some (.string z) := fun y => ((unhide HBF y).cell (block_lt_of_cell (unhide HZ))).trans (unhide HZ)
          have C1 : Hid (∀ W, Calls Try.prog 48 #[.string x] W fun e w' => e = .returned (.bool false) ∧ w' = W) := hide (fun W => by have := l1Name_any x W (unhide HFI).1; rw [e1] at this; exact this)
          have C4 : Hid (∀ y, Calls Try.prog 49 #[.slice qa ql qc] (f y) fun e w' => e = .returned (.bool (riseB q)) ∧ ∃ n, w' = (f y).drewN n) := hide (fun y => l1Rise_any qa ql qc q (f y) (unhide HQ y))
          have C5 : Hid (∀ y, Calls Try.prog 50 #[.slice qa ql qc, .int .i64 0, .int .i64 9] (f y) fun e w' => e = .returned (.bool (allB q 0 9)) ∧ ∃ n, w' = (f y).drewN n) := hide (fun y => l1All_any qa ql qc q 0 9 (f y) (unhide HQ y))
          clear hbf hall hV bV
          refine wp_region_bel (unhide HAL) (by kernel_rfl) (by kernel_rfl) ?_
          repeat (go_big_quiet_step ((first | (go_at_call 48; exact belS (unhide C1 _)) | (go_at_call 40; exact belS (l1In_is _ _ _ _ e3)) | (go_at_call 49; exact belN (unhide HF) (unhide HAL) (unhide C4 _)) | (go_at_call 50; exact belN (unhide HF) (unhide HAL) (unhide C5 _)))))
          refine wpQuiet_nil ?_
          rintro _ ⟨y, rfl⟩
          go_wp2_with fail
          go_ret
          exact ⟨ret_bool (unhide HE).symm, unhide HBF y⟩
        · have HE : Hid (wrB rs = false) := hide (wrB_not hlt (by unfold wrAtB; rw [unhide HV, hv]; rfl))
          clear hv
          go_wp2_with fail
          obtain ⟨V, hV⟩ : ∃ W, W = wr.alloc (Obj.cells #[.string x, .int .i64 r, .slice qa ql qc, .bool l, .string d] 56) := ⟨_, rfl⟩
          have KP : Hid (Blk V wr.heap.size [.string x, .int .i64 r, .slice qa ql qc, .bool l, .string d]) := hide (by rw [hV]; exact Blk.new _ _)
          have bV : Below wr.heap.size wr V := by rw [hV]; exact bel1 _
          rw [← hV]
          obtain ⟨ι, f, _, hbf, hall⟩ := belClass V
          have HF := hide hbf
          have HAL := hide hall
          have HBF : Hid (∀ y, Below w.heap.size w (f y)) := hide (fun y => (unhide HB).trans ((bV.trans ((hbf y).mono bV.size)).mono (unhide HB).size))
          have v0 : ∀ y, (f y).cell? ⟨wr.heap.size, 0, none⟩ = some (.string x) := fun y => ((unhide KP).below (hbf y)).c 0 (by simp)
          have v1 : ∀ y, (f y).cell? ⟨wr.heap.size, 1, none⟩ = some (.int .i64 r) := fun y => ((unhide KP).below (hbf y)).c 1 (by simp)
          have v2 : ∀ y, (f y).cell? ⟨wr.heap.size, 2, none⟩ = some (.slice qa ql qc) := fun y => ((unhide KP).below (hbf y)).c 2 (by simp)
          have v4 : ∀ y, (f y).cell? ⟨wr.heap.size, 4, none⟩ = some (.string d) := fun y => ((unhide KP).below (hbf y)).c 4 (by simp)
          have HQ : Hid (∀ y, Row (f y) qa ql q) := hide (fun y => (unhide HQ0).below ((unhide HBF) y))
          have n0 : ∀ y, (f y).cell? ⟨bb, off + j * 5, none⟩ = some (.string z) := fun y => ((unhide HBF y).cell (block_lt_of_cell (unhide HZ))).trans (unhide HZ)
          have C1 : Hid (∀ W, Calls Try.prog 48 #[.string x] W fun e w' => e = .returned (.bool true) ∧ w' = W) := hide (fun W => by have := l1Name_any x W (unhide HFI).1; rw [e1] at this; exact this)
          have C4 : Hid (∀ y, Calls Try.prog 49 #[.slice qa ql qc] (f y) fun e w' => e = .returned (.bool (riseB q)) ∧ ∃ n, w' = (f y).drewN n) := hide (fun y => l1Rise_any qa ql qc q (f y) (unhide HQ y))
          have C5 : Hid (∀ y, Calls Try.prog 50 #[.slice qa ql qc, .int .i64 0, .int .i64 9] (f y) fun e w' => e = .returned (.bool (allB q 0 9)) ∧ ∃ n, w' = (f y).drewN n) := hide (fun y => l1All_any qa ql qc q 0 9 (f y) (unhide HQ y))
          clear hbf hall hV bV
          refine wp_region_bel (unhide HAL) (by kernel_rfl) (by kernel_rfl) ?_
          repeat (go_big_quiet_step ((first | (go_at_call 48; exact belS (unhide C1 _)) | (go_at_call 40; exact belS (l1In_is _ _ _ _ e3)) | (go_at_call 49; exact belN (unhide HF) (unhide HAL) (unhide C4 _)) | (go_at_call 50; exact belN (unhide HF) (unhide HAL) (unhide C5 _)))))
          refine wpQuiet_nil ?_
          rintro _ ⟨y, rfl⟩
          go_wp2_with fail
          go_ret
          exact ⟨ret_bool (unhide HE).symm, unhide HBF y⟩
        · have HE : Hid (wrB rs = false) := hide (wrB_not hlt (by unfold wrAtB; rw [unhide HV, hv]; rfl))
          clear hv
          go_wp2_with fail
          obtain ⟨V, hV⟩ : ∃ W, W = wr.alloc (Obj.cells #[.string x, .int .i64 r, .slice qa ql qc, .bool l, .string d] 56) := ⟨_, rfl⟩
          have KP : Hid (Blk V wr.heap.size [.string x, .int .i64 r, .slice qa ql qc, .bool l, .string d]) := hide (by rw [hV]; exact Blk.new _ _)
          have bV : Below wr.heap.size wr V := by rw [hV]; exact bel1 _
          rw [← hV]
          obtain ⟨ι, f, _, hbf, hall⟩ := belClass V
          have HF := hide hbf
          have HAL := hide hall
          have HBF : Hid (∀ y, Below w.heap.size w (f y)) := hide (fun y => (unhide HB).trans ((bV.trans ((hbf y).mono bV.size)).mono (unhide HB).size))
          have v0 : ∀ y, (f y).cell? ⟨wr.heap.size, 0, none⟩ = some (.string x) := fun y => ((unhide KP).below (hbf y)).c 0 (by simp)
          have v1 : ∀ y, (f y).cell? ⟨wr.heap.size, 1, none⟩ = some (.int .i64 r) := fun y => ((unhide KP).below (hbf y)).c 1 (by simp)
          have v2 : ∀ y, (f y).cell? ⟨wr.heap.size, 2, none⟩ = some (.slice qa ql qc) := fun y => ((unhide KP).below (hbf y)).c 2 (by simp)
          have v4 : ∀ y, (f y).cell? ⟨wr.heap.size, 4, none⟩ = some (.string d) := fun y => ((unhide KP).below (hbf y)).c 4 (by simp)
          have HQ : Hid (∀ y, Row (f y) qa ql q) := hide (fun y => (unhide HQ0).below ((unhide HBF) y))
          have n0 : ∀ y, (f y).cell? ⟨bb, off + j * 5, none⟩ = some (.string z) := fun y => ((unhide HBF y).cell (block_lt_of_cell (unhide HZ))).trans (unhide HZ)
          have C1 : Hid (∀ W, Calls Try.prog 48 #[.string x] W fun e w' => e = .returned (.bool true) ∧ w' = W) := hide (fun W => by have := l1Name_any x W (unhide HFI).1; rw [e1] at this; exact this)
          have C4 : Hid (∀ y, Calls Try.prog 49 #[.slice qa ql qc] (f y) fun e w' => e = .returned (.bool (riseB q)) ∧ ∃ n, w' = (f y).drewN n) := hide (fun y => l1Rise_any qa ql qc q (f y) (unhide HQ y))
          have C5 : Hid (∀ y, Calls Try.prog 50 #[.slice qa ql qc, .int .i64 0, .int .i64 9] (f y) fun e w' => e = .returned (.bool (allB q 0 9)) ∧ ∃ n, w' = (f y).drewN n) := hide (fun y => l1All_any qa ql qc q 0 9 (f y) (unhide HQ y))
          clear hbf hall hV bV
          refine wp_region_bel (unhide HAL) (by kernel_rfl) (by kernel_rfl) ?_
          repeat (go_big_quiet_step ((first | (go_at_call 48; exact belS (unhide C1 _)) | (go_at_call 40; exact belS (l1In_is _ _ _ _ e3)) | (go_at_call 49; exact belN (unhide HF) (unhide HAL) (unhide C4 _)) | (go_at_call 50; exact belN (unhide HF) (unhide HAL) (unhide C5 _)))))
          refine wpQuiet_nil ?_
          rintro _ ⟨y, rfl⟩
          go_wp2_with fail
          go_ret
          exact ⟨ret_bool (unhide HE).symm, unhide HBF y⟩
        · have HE : Hid (wrB rs = false) := hide (wrB_not hlt (by unfold wrAtB; rw [unhide HV, hv]; rfl))
          clear hv
          go_wp2_with fail
          obtain ⟨V, hV⟩ : ∃ W, W = wr.alloc (Obj.cells #[.string x, .int .i64 r, .slice qa ql qc, .bool l, .string d] 56) := ⟨_, rfl⟩
          have KP : Hid (Blk V wr.heap.size [.string x, .int .i64 r, .slice qa ql qc, .bool l, .string d]) := hide (by rw [hV]; exact Blk.new _ _)
          have bV : Below wr.heap.size wr V := by rw [hV]; exact bel1 _
          rw [← hV]
          obtain ⟨ι, f, _, hbf, hall⟩ := belClass V
          have HF := hide hbf
          have HAL := hide hall
          have HBF : Hid (∀ y, Below w.heap.size w (f y)) := hide (fun y => (unhide HB).trans ((bV.trans ((hbf y).mono bV.size)).mono (unhide HB).size))
          have v0 : ∀ y, (f y).cell? ⟨wr.heap.size, 0, none⟩ = some (.string x) := fun y => ((unhide KP).below (hbf y)).c 0 (by simp)
          have v1 : ∀ y, (f y).cell? ⟨wr.heap.size, 1, none⟩ = some (.int .i64 r) := fun y => ((unhide KP).below (hbf y)).c 1 (by simp)
          have v2 : ∀ y, (f y).cell? ⟨wr.heap.size, 2, none⟩ = some (.slice qa ql qc) := fun y => ((unhide KP).below (hbf y)).c 2 (by simp)
          have v4 : ∀ y, (f y).cell? ⟨wr.heap.size, 4, none⟩ = some (.string d) := fun y => ((unhide KP).below (hbf y)).c 4 (by simp)
          have HQ : Hid (∀ y, Row (f y) qa ql q) := hide (fun y => (unhide HQ0).below ((unhide HBF) y))
          have n0 : ∀ y, (f y).cell? ⟨bb, off + j * 5, none⟩ = some (.string z) := fun y => ((unhide HBF y).cell (block_lt_of_cell (unhide HZ))).trans (unhide HZ)
          have C1 : Hid (∀ W, Calls Try.prog 48 #[.string x] W fun e w' => e = .returned (.bool true) ∧ w' = W) := hide (fun W => by have := l1Name_any x W (unhide HFI).1; rw [e1] at this; exact this)
          have C4 : Hid (∀ y, Calls Try.prog 49 #[.slice qa ql qc] (f y) fun e w' => e = .returned (.bool (riseB q)) ∧ ∃ n, w' = (f y).drewN n) := hide (fun y => l1Rise_any qa ql qc q (f y) (unhide HQ y))
          have C5 : Hid (∀ y, Calls Try.prog 50 #[.slice qa ql qc, .int .i64 0, .int .i64 9] (f y) fun e w' => e = .returned (.bool (allB q 0 9)) ∧ ∃ n, w' = (f y).drewN n) := hide (fun y => l1All_any qa ql qc q 0 9 (f y) (unhide HQ y))
          rw [e4] at C4
          clear hbf hall hV bV
          refine wp_region_bel (unhide HAL) (by kernel_rfl) (by kernel_rfl) ?_
          repeat (go_big_quiet_step ((first | (go_at_call 48; exact belS (unhide C1 _)) | (go_at_call 40; exact belS (l1In_is _ _ _ _ e3)) | (go_at_call 49; exact belN (unhide HF) (unhide HAL) (unhide C4 _)) | (go_at_call 50; exact belN (unhide HF) (unhide HAL) (unhide C5 _)))))
          refine wpQuiet_nil ?_
          rintro _ ⟨y, rfl⟩
          go_wp2_with fail
          go_ret
          exact ⟨ret_bool (unhide HE).symm, unhide HBF y⟩
        · have HE : Hid (wrB rs = false) := hide (wrB_not hlt (by unfold wrAtB; rw [unhide HV, hv]; rfl))
          clear hv
          go_wp2_with fail
          obtain ⟨V, hV⟩ : ∃ W, W = wr.alloc (Obj.cells #[.string x, .int .i64 r, .slice qa ql qc, .bool l, .string d] 56) := ⟨_, rfl⟩
          have KP : Hid (Blk V wr.heap.size [.string x, .int .i64 r, .slice qa ql qc, .bool l, .string d]) := hide (by rw [hV]; exact Blk.new _ _)
          have bV : Below wr.heap.size wr V := by rw [hV]; exact bel1 _
          rw [← hV]
          obtain ⟨ι, f, _, hbf, hall⟩ := belClass V
          have HF := hide hbf
          have HAL := hide hall
          have HBF : Hid (∀ y, Below w.heap.size w (f y)) := hide (fun y => (unhide HB).trans ((bV.trans ((hbf y).mono bV.size)).mono (unhide HB).size))
          have v0 : ∀ y, (f y).cell? ⟨wr.heap.size, 0, none⟩ = some (.string x) := fun y => ((unhide KP).below (hbf y)).c 0 (by simp)
          have v1 : ∀ y, (f y).cell? ⟨wr.heap.size, 1, none⟩ = some (.int .i64 r) := fun y => ((unhide KP).below (hbf y)).c 1 (by simp)
          have v2 : ∀ y, (f y).cell? ⟨wr.heap.size, 2, none⟩ = some (.slice qa ql qc) := fun y => ((unhide KP).below (hbf y)).c 2 (by simp)
          have v4 : ∀ y, (f y).cell? ⟨wr.heap.size, 4, none⟩ = some (.string d) := fun y => ((unhide KP).below (hbf y)).c 4 (by simp)
          have HQ : Hid (∀ y, Row (f y) qa ql q) := hide (fun y => (unhide HQ0).below ((unhide HBF) y))
          have n0 : ∀ y, (f y).cell? ⟨bb, off + j * 5, none⟩ = some (.string z) := fun y => ((unhide HBF y).cell (block_lt_of_cell (unhide HZ))).trans (unhide HZ)
          have C1 : Hid (∀ W, Calls Try.prog 48 #[.string x] W fun e w' => e = .returned (.bool true) ∧ w' = W) := hide (fun W => by have := l1Name_any x W (unhide HFI).1; rw [e1] at this; exact this)
          have C4 : Hid (∀ y, Calls Try.prog 49 #[.slice qa ql qc] (f y) fun e w' => e = .returned (.bool (riseB q)) ∧ ∃ n, w' = (f y).drewN n) := hide (fun y => l1Rise_any qa ql qc q (f y) (unhide HQ y))
          have C5 : Hid (∀ y, Calls Try.prog 50 #[.slice qa ql qc, .int .i64 0, .int .i64 9] (f y) fun e w' => e = .returned (.bool (allB q 0 9)) ∧ ∃ n, w' = (f y).drewN n) := hide (fun y => l1All_any qa ql qc q 0 9 (f y) (unhide HQ y))
          rw [e4] at C4
          rw [e5] at C5
          clear hbf hall hV bV
          refine wp_region_bel (unhide HAL) (by kernel_rfl) (by kernel_rfl) ?_
          repeat (go_big_quiet_step ((first | (go_at_call 48; exact belS (unhide C1 _)) | (go_at_call 40; exact belS (l1In_is _ _ _ _ e3)) | (go_at_call 49; exact belN (unhide HF) (unhide HAL) (unhide C4 _)) | (go_at_call 50; exact belN (unhide HF) (unhide HAL) (unhide C5 _)))))
          refine wpQuiet_nil ?_
          rintro _ ⟨y, rfl⟩
          go_wp2_with fail
          go_ret
          exact ⟨ret_bool (unhide HE).symm, unhide HBF y⟩
        · have HS : Hid (wrSB rs i = true) := hide (by rw [unhide HV, hv])
          clear hv
          go_wp2_with fail
          obtain ⟨V, hV⟩ : ∃ W, W = wr.alloc (Obj.cells #[.string x, .int .i64 r, .slice qa ql qc, .bool l, .string d] 56) := ⟨_, rfl⟩
          have KP : Hid (Blk V wr.heap.size [.string x, .int .i64 r, .slice qa ql qc, .bool l, .string d]) := hide (by rw [hV]; exact Blk.new _ _)
          have bV : Below wr.heap.size wr V := by rw [hV]; exact bel1 _
          rw [← hV]
          obtain ⟨ι, f, _, hbf, hall⟩ := belClass V
          have HF := hide hbf
          have HAL := hide hall
          have HBF : Hid (∀ y, Below w.heap.size w (f y)) := hide (fun y => (unhide HB).trans ((bV.trans ((hbf y).mono bV.size)).mono (unhide HB).size))
          have v0 : ∀ y, (f y).cell? ⟨wr.heap.size, 0, none⟩ = some (.string x) := fun y => ((unhide KP).below (hbf y)).c 0 (by simp)
          have v1 : ∀ y, (f y).cell? ⟨wr.heap.size, 1, none⟩ = some (.int .i64 r) := fun y => ((unhide KP).below (hbf y)).c 1 (by simp)
          have v2 : ∀ y, (f y).cell? ⟨wr.heap.size, 2, none⟩ = some (.slice qa ql qc) := fun y => ((unhide KP).below (hbf y)).c 2 (by simp)
          have v4 : ∀ y, (f y).cell? ⟨wr.heap.size, 4, none⟩ = some (.string d) := fun y => ((unhide KP).below (hbf y)).c 4 (by simp)
          have HQ : Hid (∀ y, Row (f y) qa ql q) := hide (fun y => (unhide HQ0).below ((unhide HBF) y))
          have n0 : ∀ y, (f y).cell? ⟨bb, off + j * 5, none⟩ = some (.string z) := fun y => ((unhide HBF y).cell (block_lt_of_cell (unhide HZ))).trans (unhide HZ)
          have C1 : Hid (∀ W, Calls Try.prog 48 #[.string x] W fun e w' => e = .returned (.bool true) ∧ w' = W) := hide (fun W => by have := l1Name_any x W (unhide HFI).1; rw [e1] at this; exact this)
          have C4 : Hid (∀ y, Calls Try.prog 49 #[.slice qa ql qc] (f y) fun e w' => e = .returned (.bool (riseB q)) ∧ ∃ n, w' = (f y).drewN n) := hide (fun y => l1Rise_any qa ql qc q (f y) (unhide HQ y))
          have C5 : Hid (∀ y, Calls Try.prog 50 #[.slice qa ql qc, .int .i64 0, .int .i64 9] (f y) fun e w' => e = .returned (.bool (allB q 0 9)) ∧ ∃ n, w' = (f y).drewN n) := hide (fun y => l1All_any qa ql qc q 0 9 (f y) (unhide HQ y))
          rw [e4] at C4
          rw [e5] at C5
          clear hbf hall hV bV
          refine wp_region_bel (unhide HAL) (by kernel_rfl) (by kernel_rfl) ?_
          repeat (go_big_quiet_step ((first | (go_at_call 48; exact belS (unhide C1 _)) | (go_at_call 40; exact belS (l1In_is _ _ _ _ e3)) | (go_at_call 49; exact belN (unhide HF) (unhide HAL) (unhide C4 _)) | (go_at_call 50; exact belN (unhide HF) (unhide HAL) (unhide C5 _)))))
          refine wpQuiet_nil ?_
          rintro _ ⟨y, rfl⟩
          obtain ⟨U, hU⟩ : ∃ U, U = f y := ⟨_, rfl⟩
          have u4 := v4 y
          have HBU := hide (unhide HBF y)
          rw [← hU] at u4 HBU ⊢
          have RU := hide ((unhide HR).below (unhide HBU))
          clear v0 v1 v2 v4 C1 C4 C5 HBF HF HAL HQ KP n0 hU
          have e0 : (⟨#[]⟩ : ByteArray).toList = [] := by simp
          cases g : (d.toList == []) with
          | true =>
            have HA : Hid (wrAtB rs i = true) := hide (by unfold wrAtB wrDB sEq; rw [unhide HS, unhide HPP]; simp only [e0]; rw [g]; rfl)
            go_wp2_with fail
            go_roundw
            case rel => exact ⟨i + 1, by omega, by go_num, hide (fun j hj => by rcases Nat.lt_succ_iff_lt_or_eq.1 hj with h | h; exact unhide HN j h; subst h; exact unhide HA), HBU⟩
            case measure => simp [intOf]; omega
          | false =>
            have HD : Hid (wrAtB rs i = (decide (wfK rs d < rs.length) && decide (¬ wfK rs d = i) && sEq (elAt rs (wfK rs d)).d ⟨#[]⟩)) := hide (by
              have : sEq d ⟨#[]⟩ = false := by unfold sEq; rw [e0]; exact g
              unfold wrAtB wrDB; rw [unhide HS, unhide HPP]; simp only [this, Bool.false_or, Bool.true_and])
            have HI0 : Hid (wfI rs d = if wfK rs d < rs.length then (wfK rs d : Int) else -1) := hide rfl
            have HLE := hide (wfK_le rs d)
            have HFN : Hid (∀ W, RowW W (some ⟨bb, off, none⟩) rs.length rs → Calls Try.prog 45 #[.slice (some ⟨bb, off, none⟩) rs.length cap, .string d] W fun e w' => e = .returned (.int .i64 (wfI rs d)) ∧ w' = W) := hide (fun W hr => l14Find_any _ _ cap rs d W hr hl)
            obtain ⟨K, hK⟩ : ∃ K, wfK rs d = K := ⟨_, rfl⟩
            rw [hK] at HD HI0 HLE
            clear hK
            by_cases hk : K < rs.length
            · rw [if_pos hk] at HI0
              rw [unhide HI0] at HFN
              have hk0 : ¬ (K : Int) < 0 := by omega
              have hk1 : (0 : Int) ≤ (K : Int) := by omega
              have hk2 : (K : Int) < (rs.length : Int) := by omega
              by_cases hki : K = i
              · have HE : Hid (wrB rs = false) := hide (wrB_not hlt (by rw [unhide HD]; simp [hki]))
                have hki2 : ((K : Int) == (i : Int)) = true := by simp [hki]
                have HKI := hide hki
                clear hki
                go_wp2_with (go_at_call 45; refine ((unhide HFN) _ (unhide RU)).mono ?_; rintro e w' ⟨rfl, hw⟩; subst w')
                go_ret
                exact ⟨ret_bool (unhide HE).symm, unhide HBU⟩
              · have hki2 : ((K : Int) == (i : Int)) = false := by simp; omega
                obtain ⟨qa2, ql2, qc2, hat2, _, _, _⟩ := (unhide HO2) K hk
                have hat2 := hat2.below (unhide HBU)
                have z4 := hat2.c4
                obtain ⟨dd, hdd⟩ : ∃ dd, (elAt rs K).d = dd := ⟨_, rfl⟩
                rw [hdd] at z4
                rw [hdd] at HD
                have HKI := hide hki
                clear hat2 hdd
                cases g3 : (dd.toList == []) with
                | true =>
                  have HA : Hid (wrAtB rs i = true) := hide (by rw [unhide HD]; unfold sEq; simp only [e0]; rw [g3]; simp [hk, hki])
                  clear hki
                  go_wp2_with (go_at_call 45; refine ((unhide HFN) _ (unhide RU)).mono ?_; rintro e w' ⟨rfl, hw⟩; subst w')
                  go_roundw
                  case rel => exact ⟨i + 1, by omega, by go_num, hide (fun j hj => by rcases Nat.lt_succ_iff_lt_or_eq.1 hj with h | h; exact unhide HN j h; subst h; exact unhide HA), HBU⟩
                  case measure => simp [intOf]; omega
                | false =>
                  have HE : Hid (wrB rs = false) := hide (wrB_not hlt (by rw [unhide HD]; unfold sEq; simp only [e0]; rw [g3]; simp))
                  clear hki
                  go_wp2_with (go_at_call 45; refine ((unhide HFN) _ (unhide RU)).mono ?_; rintro e w' ⟨rfl, hw⟩; subst w')
                  go_ret
                  exact ⟨ret_bool (unhide HE).symm, unhide HBU⟩
            · rw [if_neg hk] at HI0
              rw [unhide HI0] at HFN
              have HE : Hid (wrB rs = false) := hide (wrB_not hlt (by rw [unhide HD]; simp [hk]))
              go_wp2_with (go_at_call 45; refine ((unhide HFN) _ (unhide RU)).mono ?_; rintro e w' ⟨rfl, hw⟩; subst w')
              go_ret
              exact ⟨ret_bool (unhide HE).symm, unhide HBU⟩
    · have k1 : ¬ (i : Int) < (rs.length : Int) := by omega
      have HE := hide (wrB_all (rs := rs) (fun j hj => unhide HN j (by omega)))
      go_wp2_with fail
      go_ret
      exact ⟨ret_bool (by rw [unhide HE]; congr 1; apply propext; omega), unhide HB⟩

end Go.Proofs.Ytjalfalgffphmaw
