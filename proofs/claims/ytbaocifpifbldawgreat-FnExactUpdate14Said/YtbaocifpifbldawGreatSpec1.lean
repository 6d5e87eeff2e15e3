/-
  What the model of chapter 14 answers of names and rules.
  What the model's l1Name and the program's nameOk answer: whether a text is a name. At every text; nothing is written.
  Whether rules of warnings are so, in the model: the plain answer, at every list; nothing that was there is written.
  Whether names are among names, ascending names of rules, a panel so, in the model.
  Whether a panel is so, in the model.
  What is told and kept behind an update, in plain terms. No program here.
-/
import Derived.Test.YtbaocifpifbldawGreatNames1
import Derived.Test.YtbaocifpifbldawGreatWrRow
import Derived.Test.YtbaocifpifbldawGreatSmall
import Derived.Laws.Cover1
import Derived.Test.YtbaocifpifbldawGreatPan0

namespace Go.Proofs.YtbaocifpifbldawGreat
open Go.RowKit

set_option maxRecDepth 20000 in
set_option maxHeartbeats 1000000 in
theorem l14Find_any (ad : Option Addr) (len cap : Nat) (rs : List Wr) (s : ByteArray) (w : World) (hr : RowW w ad len rs) (hl : len ≤ 1048576) :
    Calls Tryz.prog 45 #[.slice ad len cap, .string s] w fun e w' => e = .returned (.int .i64 (wfI rs s)) ∧ w' = w := by
  have hz := hr.len_eq
  have HO := hide hr.open_
  clear hr
  subst hz
  go_enter Tryz.func45, Tryz.ntmps45
  go_wp2_with fail
  go_loopw [5] (fun s5 wr => ∃ i : Nat, i ≤ rs.length ∧ s5 = .int .i64 (i : Int) ∧ Hid (∀ j, j < i → sEq (elAt rs j).n s = false) ∧ wr = w) (fun s5 _ => rs.length - (intOf s5).toNat)
  case atStart => exact ⟨0, Nat.zero_le _, rfl, hide (fun j hj => by omega), rfl⟩
  case round =>
    obtain ⟨i, hi, rfl, HN, hwr⟩ := hrel
    subst wr
    by_cases hlt : i < rs.length
    · rcases (unhide HO) with ⟨h0, _⟩ | ⟨bb, off, rfl, _, hc⟩
      · omega
      obtain ⟨qa, ql, qc, hat, _, _, _⟩ := hc i hlt
      have m0 := hat.c0
      have k0 : (0 : Int) ≤ (i : Int) := by omega
      have k1 : (i : Int) < (rs.length : Int) := by omega
      clear hc hat
      obtain ⟨x, hx⟩ : ∃ x, (elAt rs i).n = x := ⟨_, rfl⟩
      rw [hx] at m0
      have HX := hide hx
      clear hx
      cases g : (x.toList == s.toList) with
      | true =>
        have HE : Hid (wfI rs s = (i : Int)) := hide (by unfold wfI; rw [wfK_here hlt (by rw [unhide HX]; exact g) (unhide HN), if_pos hlt])
        go_wp2_with fail
        go_ret
        exact ⟨ret_int (unhide HE).symm, rfl⟩
      | false =>
        have HG : Hid (sEq (elAt rs i).n s = false) := hide (by rw [unhide HX]; exact g)
        go_wp2_with fail
        go_roundw
        case rel => exact ⟨i + 1, by omega, by go_num, hide (fun j hj => by rcases Nat.lt_succ_iff_lt_or_eq.1 hj with h | h; exact unhide HN j h; subst h; exact unhide HG), by first | rfl | trivial⟩
        case measure => simp [intOf]; omega
    · have k1 : ¬ (i : Int) < (rs.length : Int) := by omega
      have HE : Hid (wfI rs s = -1) := hide (by unfold wfI; rw [wfK_none (fun j hj => unhide HN j (by omega)), if_neg (by omega)])
      go_wp2_with fail
      go_ret
      exact ⟨ret_int (unhide HE).symm, rfl⟩
set_option maxRecDepth 20000 in
set_option maxHeartbeats 1000000 in
theorem l14Quiet_any (qa : Option Addr) (ql qc : Nat) (p : Wr) (ph : Int) (w : World) (hr : Row w qa ql p.q) (hl : ql ≤ 1048576) :
    Calls Tryz.prog 26 #[.agg #[.string p.n, .int .i64 p.r, .slice qa ql qc, .bool p.l, .string p.d], .int .i64 ph] w fun e w' => e = .returned (.bool (qtB p.q ph)) ∧ Below w.heap.size w w' := by
  have hz := hr.len_eq
  have HO := hide ((hr.alloc (Obj.cells #[.string p.n, .int .i64 p.r, .slice qa ql qc, .bool p.l, .string p.d] 51)).open_)
  clear hr
  subst hz
  go_enter Tryz.func26, Tryz.ntmps26
  go_wp2_with fail
  go_loopw [5] (fun s5 wr => ∃ i : Nat, i ≤ p.q.length ∧ s5 = .int .i64 (i : Int) ∧ Hid (∀ j, j < i → ¬ nth p.q j = ph) ∧ wr = w.alloc (Obj.cells #[.string p.n, .int .i64 p.r, .slice qa p.q.length qc, .bool p.l, .string p.d] 51)) (fun s5 _ => p.q.length - (intOf s5).toNat)
  case atStart => exact ⟨0, Nat.zero_le _, rfl, hide (fun j hj => by omega), rfl⟩
  case round =>
    obtain ⟨i, hi, rfl, HN, hwr⟩ := hrel
    subst wr
    by_cases hlt : i < p.q.length
    · rcases (unhide HO) with ⟨h0, _⟩ | ⟨bb, off, rfl, _, hc⟩
      · omega
      have m0 := hc i hlt
      have k0 : (0 : Int) ≤ (i : Int) := by omega
      have k1 : (i : Int) < (p.q.length : Int) := by omega
      obtain ⟨x, hx⟩ : ∃ x, nth p.q i = x := ⟨_, rfl⟩
      rw [hx] at m0
      have HX := hide hx
      clear hx hc
      by_cases g : x = ph
      · have HE := hide (qtB_yes (ph := ph) hlt ((unhide HX).trans g))
        have HG := hide g
        have g2 : (x == ph) = true := by simp [g]
        clear g
        go_wp2_with fail
        go_ret
        exact ⟨ret_bool (unhide HE).symm, bel1 _⟩
      · have HG := hide g
        have g2 : (x == ph) = false := by simp [g]
        go_wp2_with fail
        go_roundw
        case rel => exact ⟨i + 1, by omega, by go_num, hide (fun j hj => by rcases Nat.lt_succ_iff_lt_or_eq.1 hj with h | h; exact unhide HN j h; subst h; rw [unhide HX]; exact unhide HG), by first | rfl | trivial⟩
        case measure => simp [intOf]; omega
    · have k1 : ¬ (i : Int) < (p.q.length : Int) := by omega
      have HE := hide (qtB_no (q := p.q) (ph := ph) (fun j hj => unhide HN j (by omega)))
      go_wp2_with fail
      go_ret
      exact ⟨ret_bool (unhide HE).symm, bel1 _⟩

end Go.Proofs.YtbaocifpifbldawGreat

namespace Go.Proofs.YtbaocifpifbldawGreat
open Go.RowKit

set_option maxHeartbeats 2000000 in
theorem nameByte_any (c : Int) (w : World) (h : 0 ≤ c ∧ c ≤ 255) :
    Calls Tryz.prog 70 #[.int .u8 c] w fun e w' => e = .returned (.bool (byteB c)) ∧ w' = w := by
  by_cases a1 : 97 ≤ c <;> by_cases a2 : c ≤ 122 <;> (try (exfalso; omega)) <;> by_cases a3 : 65 ≤ c <;> by_cases a4 : c ≤ 90 <;> (try (exfalso; omega)) <;> by_cases a5 : 48 ≤ c <;> by_cases a6 : c ≤ 57 <;> (try (exfalso; omega)) <;> by_cases a7 : c = 45 <;> (try (exfalso; omega))
  all_goals
    first
    | have HE : Hid (byteB c = true) := hide (by simp [byteB, inB]; omega)
    | have HE : Hid (byteB c = false) := hide (by simp [byteB, inB]; omega)
    go_enter Tryz.func70, Tryz.ntmps70
    go_wp2
    try rw [Exit.noGoto_ret]
    go_ret
    first
    | exact ⟨ret_bool (unhide HE).symm, rfl⟩
    | exact ⟨ret_bool (by rw [unhide HE]; simpa using a7), rfl⟩
    | exact ⟨ret_bool (by decide), rfl⟩

set_option maxHeartbeats 1000000 in
theorem nameOk_any (s : ByteArray) (w : World) (hs : s.size ≤ 9223372036854775807) :
    Calls Tryz.prog 59 #[.string s] w fun e w' => e = .returned (.bool (nameB s)) ∧ w' = w := by
  cases h : inB s.size 1 20 with
  | false =>
    have HE := hide (nameB_size h)
    go_enter Tryz.func59, Tryz.ntmps59
    go_wp2_with fail
    refine (within_is _ _ _ _ h).mono ?_
    rintro e w' ⟨rfl, hw⟩
    subst w'
    go_wp2_with fail
    go_ret
    exact ⟨ret_bool (unhide HE).symm, rfl⟩
  | true =>
    have hb := in_facts h
    go_enter Tryz.func59, Tryz.ntmps59
    go_wp2_with fail
    refine (within_is _ _ _ _ h).mono ?_
    rintro e w' ⟨rfl, hw⟩
    subst w'
    have HH := hide h
    clear h
    go_wp2_with fail
    go_loopw [10] (fun i wr => ∃ k : Nat, k ≤ s.size ∧ i = .int .i64 k ∧ Hid (∀ j, j < k → byteB (byAt s j) = true) ∧ wr = w) (fun i _ => s.size - (intOf i).toNat)
    case atStart => exact ⟨0, Nat.zero_le _, rfl, hide (fun j hj => by omega), rfl⟩
    case round =>
      obtain ⟨k, hk, rfl, HN, hwr⟩ := hrel
      subst wr
      by_cases hlt : k < s.size
      · have hi1 : (k : Int) < (s.size : Int) := by omega
        have hi0 : (0 : Int) ≤ (k : Int) := by omega
        have hby := byAt_is hlt
        have hbd := byAt_bd s k
        cases hc : byteB (byAt s k) with
        | false =>
          have HE := hide (nameB_at hlt hc)
          have HC := hide hc
          clear hc
          go_wp2_with fail
          refine (nameByte_any _ _ hbd).mono ?_
          rintro e w' ⟨rfl, hw⟩
          subst w'
          have hc := unhide HC
          go_wp2_with fail
          go_ret
          exact ⟨ret_bool (unhide HE).symm, rfl⟩
        | true =>
          have HC := hide hc
          clear hc
          go_wp2_with fail
          refine (nameByte_any _ _ hbd).mono ?_
          rintro e w' ⟨rfl, hw⟩
          subst w'
          have hc := unhide HC
          go_wp2_with fail
          go_roundw
          case rel => exact ⟨k + 1, by omega, by go_num, hide (fun j hj => by rcases Nat.lt_succ_iff_lt_or_eq.1 hj with h | h; exact unhide HN j h; subst h; exact unhide HC), trivial⟩
          case measure => simp [intOf]; omega
      · have HE : Hid (nameB s = true) := hide ((nameB_all (fun j hj => unhide HN j (by omega))).trans (unhide HH))
        go_wp2_with fail
        go_ret
        exact ⟨ret_bool (unhide HE).symm, rfl⟩

set_option maxHeartbeats 2000000 in
theorem l1Name_any (s : ByteArray) (w : World) (hs : s.size ≤ 9223372036854775807) :
    Calls Tryz.prog 42 #[.string s] w fun e w' => e = .returned (.bool (nameB s)) ∧ w' = w := by
  go_enter Tryz.func42, Tryz.ntmps42
  go_wp2_with fail
  go_loopw [3] (fun i wr => ∃ k : Nat, k ≤ s.size ∧ i = .int .i64 k ∧ Hid (∀ j, j < k → byteB (byAt s j) = true) ∧ wr = w) (fun i _ => s.size - (intOf i).toNat)
  case atStart => exact ⟨0, Nat.zero_le _, rfl, hide (fun j hj => by omega), rfl⟩
  case round =>
    obtain ⟨k, hk, rfl, HN, hwr⟩ := hrel
    subst wr
    by_cases hlt : k < s.size
    · have hi1 : (k : Int) < (s.size : Int) := by omega
      have hi0 : (0 : Int) ≤ (k : Int) := by omega
      have hby := byAt_is hlt
      have hbd := byAt_bd s k
      have HW : Hid (byteB (byAt s k) = (inB (byAt s k) 97 122 || inB (byAt s k) 65 90 || inB (byAt s k) 48 57 || decide (byAt s k = 45))) := hide rfl
      cases g1 : inB (byAt s k) 97 122 with
      | true =>
        have HB : Hid (byteB (byAt s k) = true) := hide (by rw [unhide HW, g1]; simp)
        go_wp2_with (go_at_call 24; refine (l1In_any _ _ _ _).mono ?_; rintro e w' ⟨rfl, hw⟩; subst w')
        go_roundw
        case rel => exact ⟨k + 1, by omega, by go_num, hide (fun j hj => by rcases Nat.lt_succ_iff_lt_or_eq.1 hj with h | h; exact unhide HN j h; subst h; exact unhide HB), trivial⟩
        case measure => simp [intOf]; omega
      | false =>
      cases g2 : inB (byAt s k) 65 90 with
      | true =>
        have HB : Hid (byteB (byAt s k) = true) := hide (by rw [unhide HW, g2]; simp)
        go_wp2_with (go_at_call 24; refine (l1In_any _ _ _ _).mono ?_; rintro e w' ⟨rfl, hw⟩; subst w')
        go_roundw
        case rel => exact ⟨k + 1, by omega, by go_num, hide (fun j hj => by rcases Nat.lt_succ_iff_lt_or_eq.1 hj with h | h; exact unhide HN j h; subst h; exact unhide HB), trivial⟩
        case measure => simp [intOf]; omega
      | false =>
      cases g3 : inB (byAt s k) 48 57 with
      | true =>
        have HB : Hid (byteB (byAt s k) = true) := hide (by rw [unhide HW, g3]; simp)
        go_wp2_with (go_at_call 24; refine (l1In_any _ _ _ _).mono ?_; rintro e w' ⟨rfl, hw⟩; subst w')
        go_roundw
        case rel => exact ⟨k + 1, by omega, by go_num, hide (fun j hj => by rcases Nat.lt_succ_iff_lt_or_eq.1 hj with h | h; exact unhide HN j h; subst h; exact unhide HB), trivial⟩
        case measure => simp [intOf]; omega
      | false =>
      by_cases g4 : byAt s k = 45
      · have HB : Hid (byteB (byAt s k) = true) := hide (by rw [unhide HW, g1, g2, g3]; simpa using g4)
        have g5 : (byAt s k != 45) = false := by simpa using g4
        clear g4
        go_wp2_with (go_at_call 24; refine (l1In_any _ _ _ _).mono ?_; rintro e w' ⟨rfl, hw⟩; subst w')
        go_roundw
        case rel => exact ⟨k + 1, by omega, by go_num, hide (fun j hj => by rcases Nat.lt_succ_iff_lt_or_eq.1 hj with h | h; exact unhide HN j h; subst h; exact unhide HB), trivial⟩
        case measure => simp [intOf]; omega
      · have HB : Hid (byteB (byAt s k) = false) := hide (by rw [unhide HW, g1, g2, g3]; simpa using g4)
        have g5 : (byAt s k != 45) = true := by simpa using g4
        clear g4
        have HE := hide (nameB_at hlt (unhide HB))
        go_wp2_with (go_at_call 24; refine (l1In_any _ _ _ _).mono ?_; rintro e w' ⟨rfl, hw⟩; subst w')
        go_ret
        exact ⟨ret_bool (unhide HE).symm, rfl⟩
    · have HE := hide (nameB_all (fun j hj => unhide HN j (by omega)))
      go_wp2_with (go_at_call 24; refine (l1In_any _ _ _ _).mono ?_; rintro e w' ⟨rfl, hw⟩; subst w')
      go_ret
      exact ⟨ret_bool (unhide HE).symm, rfl⟩

end Go.Proofs.YtbaocifpifbldawGreat

namespace Go.Proofs.YtbaocifpifbldawGreat
open Go.RowKit

set_option maxRecDepth 20000 in
set_option maxHeartbeats 1000000 in
theorem specRulesOk_any (ad : Option Addr) (len cap : Nat) (rs : List Wr) (w : World) (hr : RowW w ad len rs) (hl : len ≤ 1048576) :
    Calls Tryz.prog 21 #[.slice ad len cap] w fun e w' => e = .returned (.bool (wrB rs)) ∧ Below w.heap.size w w' := by
  have hz := hr.len_eq
  have HR := hide hr
  have HO := hide hr.open_
  clear hr
  subst hz
  go_enter Tryz.func21, Tryz.ntmps21
  go_wp2_with fail
  go_loopw [3] (fun s3 wr => ∃ i : Nat, i ≤ rs.length ∧ s3 = .int .i64 (i : Int) ∧ Hid (∀ j, j < i → wrAtB rs j = true) ∧ Hid (Below w.heap.size w wr)) (fun s3 _ => rs.length - (intOf s3).toNat)
  case atStart => exact ⟨0, Nat.zero_le _, rfl, hide (fun j hj => by omega), hide (Below.refl _ _)⟩
  case round =>
    obtain ⟨i, hi, rfl, HN, HB⟩ := hrel
    by_cases hlt : i < rs.length
    · rcases (unhide HO) with ⟨h0, _⟩ | ⟨bb, off, rfl, _, hc⟩
      · omega
      have HO2 := hide hc
      obtain ⟨qa, ql, qc, hat, hrow, _, hfit⟩ := hc i hlt
      have hat := hat.below (unhide HB)
      have m0 := hat.c0
      have m1 := hat.c1
      have m2 := hat.c2
      have m3 := hat.c3
      have m4 := hat.c4
      have k0 : (0 : Int) ≤ (i : Int) := by omega
      have k1 : (i : Int) < (rs.length : Int) := by omega
      have HQ0 := hide hrow
      obtain ⟨P, hP⟩ : ∃ P, elAt rs i = P := ⟨_, rfl⟩
      have HPP := hide hP
      rw [hP] at m0 m1 m3 m4 HQ0 hfit
      obtain ⟨x, r, q, l, d⟩ := P
      simp only at m0 m1 m3 m4 HQ0
      have HFI : Hid (x.size ≤ 9223372036854775807 ∧ d.size ≤ 9223372036854775807) := hide hfit
      clear hat hrow hfit hP
      by_cases hi0 : i = 0
      · have HV : Hid (wrSB rs i = (nameB x && inB r 1 3 && riseB q && allB q 0 9)) := hide (by unfold wrSB; rw [unhide HPP]; simp [hi0])
        have hz1 : ¬ (0 : Int) < (i : Int) := by omega
        have hz2 : ¬ 0 < i := by omega
        have HI := hide hi0
        clear hc hi0
        rcases four (nameB x) (inB r 1 3) (riseB q) (allB q 0 9) with ⟨e1, hv⟩ | ⟨e1, e3, hv⟩ | ⟨e1, e3, e4, hv⟩ | ⟨e1, e3, e4, e5, hv⟩ | ⟨e1, e3, e4, e5, hv⟩
        · have HE : Hid (wrB rs = false) := hide (wrB_not hlt (by unfold wrAtB; rw [unhide HV, hv]; rfl))
          clear hv
          go_wp2_with fail
          obtain ⟨V, hV⟩ : ∃ W, W = wr.alloc (Obj.cells #[.string x, .int .i64 r, .slice qa ql qc, .bool l, .string d] 51) := ⟨_, rfl⟩
          have KP : Hid (Blk V wr.heap.size [.string x, .int .i64 r, .slice qa ql qc, .bool l, .string d]) := hide (by rw [hV]; exact Blk.new _ _)
          have bV : Below wr.heap.size wr V := by rw [hV]; exact bel1 _
          rw [← hV]
          obtain ⟨ι, f, _, hbf, hall⟩ := belClass V
          have HF := hide hbf
          have HAL := hide hall
          have HBF : Hid (∀ y, Below w.heap.size w (f y)) := hide (fun y => (unhide HB).trans ((bV.trans ((hbf y).mono bV.size)).mono (unhide HB).size))
          have v0 : ∀ y, (f y).cell? ⟨wr.heap.size, 0, none⟩ = some (.string x) := fun y => ((unhide KP).below (hbf y)).c 0 (by simp)
          have v1 : ∀ y, (f y).cell? ⟨wr.heap.size, 1, none⟩ = some (.int .i64 r) := fun y => ((unhide KP).below (hbf y)).c 1 (by simp)
          have v2 : ∀ y, (f y).cell? ⟨wr.heap.size, 2, none⟩ = some (.slice qa ql qc) := fun y => ((unhide KP).below (hbf y)).c 2 (by simp)
          have v4 : ∀ y, (f y).cell? ⟨wr.heap.size, 4, none⟩ = some (.string d) := fun y => ((unhide KP).below (hbf y)).c 4 (by simp)
          have HQ : Hid (∀ y, Row (f y) qa ql q) := hide (fun y => (unhide HQ0).below ((unhide HBF) y))
          have C1 : Hid (∀ W, Calls Tryz.prog 42 #[.string x] W fun e w' => e = .returned (.bool false) ∧ w' = W) := hide (fun W => by have := l1Name_any x W (unhide HFI).1; rw [e1] at this; exact this)
          have C4 : Hid (∀ y, Calls Tryz.prog 43 #[.slice qa ql qc] (f y) fun e w' => e = .returned (.bool (riseB q)) ∧ ∃ n, w' = (f y).drewN n) := hide (fun y => l1Rise_any qa ql qc q (f y) (unhide HQ y))
          have C5 : Hid (∀ y, Calls Tryz.prog 44 #[.slice qa ql qc, .int .i64 0, .int .i64 9] (f y) fun e w' => e = .returned (.bool (allB q 0 9)) ∧ ∃ n, w' = (f y).drewN n) := hide (fun y => l1All_any qa ql qc q 0 9 (f y) (unhide HQ y))
          clear hbf hall hV bV
          refine wp_region_bel (unhide HAL) (by kernel_rfl) (by kernel_rfl) ?_
          repeat (go_big_quiet_step ((first | (go_at_call 42; exact belS (unhide C1 _)) | (go_at_call 24; exact belS (l1In_is _ _ _ _ e3)) | (go_at_call 43; exact belN (unhide HF) (unhide HAL) (unhide C4 _)) | (go_at_call 44; exact belN (unhide HF) (unhide HAL) (unhide C5 _)))))
          refine wpQuiet_nil ?_
          rintro _ ⟨y, rfl⟩
          go_wp2_with fail
          go_ret
          exact ⟨ret_bool (unhide HE).symm, unhide HBF y⟩
        · have HE : Hid (wrB rs = false) := hide (wrB_not hlt (by unfold wrAtB; rw [unhide HV, hv]; rfl))
          clear hv
          go_wp2_with fail
          obtain ⟨V, hV⟩ : ∃ W, W = wr.alloc (Obj.cells #[.string x, .int .i64 r, .slice qa ql qc, .bool l, .string d] 51) := ⟨_, rfl⟩
          have KP : Hid (Blk V wr.heap.size [.string x, .int .i64 r, .slice qa ql qc, .bool l, .string d]) := hide (by rw [hV]; exact Blk.new _ _)
          have bV : Below wr.heap.size wr V := by rw [hV]; exact bel1 _
          rw [← hV]
          obtain ⟨ι, f, _, hbf, hall⟩ := belClass V
          have HF := hide hbf
          have HAL := hide hall
          have HBF : Hid (∀ y, Below w.heap.size w (f y)) := hide (fun y => (unhide HB).trans ((bV.trans ((hbf y).mono bV.size)).mono (unhide HB).size))
          have v0 : ∀ y, (f y).cell? ⟨wr.heap.size, 0, none⟩ = some (.string x) := fun y => ((unhide KP).below (hbf y)).c 0 (by simp)
          have v1 : ∀ y, (f y).cell? ⟨wr.heap.size, 1, none⟩ = some (.int .i64 r) := fun y => ((unhide KP).below (hbf y)).c 1 (by simp)
          have v2 : ∀ y, (f y).cell? ⟨wr.heap.size, 2, none⟩ = some (.slice qa ql qc) := fun y => ((unhide KP).below (hbf y)).c 2 (by simp)
          have v4 : ∀ y, (f y).cell? ⟨wr.heap.size, 4, none⟩ = some (.string d) := fun y => ((unhide KP).below (hbf y)).c 4 (by simp)
          have HQ : Hid (∀ y, Row (f y) qa ql q) := hide (fun y => (unhide HQ0).below ((unhide HBF) y))
          have C1 : Hid (∀ W, Calls Tryz.prog 42 #[.string x] W fun e w' => e = .returned (.bool true) ∧ w' = W) := hide (fun W => by have := l1Name_any x W (unhide HFI).1; rw [e1] at this; exact this)
          have C4 : Hid (∀ y, Calls Tryz.prog 43 #[.slice qa ql qc] (f y) fun e w' => e = .returned (.bool (riseB q)) ∧ ∃ n, w' = (f y).drewN n) := hide (fun y => l1Rise_any qa ql qc q (f y) (unhide HQ y))
          have C5 : Hid (∀ y, Calls Tryz.prog 44 #[.slice qa ql qc, .int .i64 0, .int .i64 9] (f y) fun e w' => e = .returned (.bool (allB q 0 9)) ∧ ∃ n, w' = (f y).drewN n) := hide (fun y => l1All_any qa ql qc q 0 9 (f y) (unhide HQ y))
          clear hbf hall hV bV
          refine wp_region_bel (unhide HAL) (by kernel_rfl) (by kernel_rfl) ?_
          repeat (go_big_quiet_step ((first | (go_at_call 42; exact belS (unhide C1 _)) | (go_at_call 24; exact belS (l1In_is _ _ _ _ e3)) | (go_at_call 43; exact belN (unhide HF) (unhide HAL) (unhide C4 _)) | (go_at_call 44; exact belN (unhide HF) (unhide HAL) (unhide C5 _)))))
          refine wpQuiet_nil ?_
          rintro _ ⟨y, rfl⟩
          go_wp2_with fail
          go_ret
          exact ⟨ret_bool (unhide HE).symm, unhide HBF y⟩
        · have HE : Hid (wrB rs = false) := hide (wrB_not hlt (by unfold wrAtB; rw [unhide HV, hv]; rfl))
          clear hv
          go_wp2_with fail
          obtain ⟨V, hV⟩ : ∃ W, W = wr.alloc (Obj.cells #[.string x, .int .i64 r, .slice qa ql qc, .bool l, .string d] 51) := ⟨_, rfl⟩
          have KP : Hid (Blk V wr.heap.size [.string x, .int .i64 r, .slice qa ql qc, .bool l, .string d]) := hide (by rw [hV]; exact Blk.new _ _)
          have bV : Below wr.heap.size wr V := by rw [hV]; exact bel1 _
          rw [← hV]
          obtain ⟨ι, f, _, hbf, hall⟩ := belClass V
          have HF := hide hbf
          have HAL := hide hall
          have HBF : Hid (∀ y, Below w.heap.size w (f y)) := hide (fun y => (unhide HB).trans ((bV.trans ((hbf y).mono bV.size)).mono (unhide HB).size))
          have v0 : ∀ y, (f y).cell? ⟨wr.heap.size, 0, none⟩ = some (.string x) := fun y => ((unhide KP).below (hbf y)).c 0 (by simp)
          have v1 : ∀ y, (f y).cell? ⟨wr.heap.size, 1, none⟩ = some (.int .i64 r) := fun y => ((unhide KP).below (hbf y)).c 1 (by simp)
          have v2 : ∀ y, (f y).cell? ⟨wr.heap.size, 2, none⟩ = some (.slice qa ql qc) := fun y => ((unhide KP).below (hbf y)).c 2 (by simp)
          have v4 : ∀ y, (f y).cell? ⟨wr.heap.size, 4, none⟩ = some (.string d) := fun y => ((unhide KP).below (hbf y)).c 4 (by simp)
          have HQ : Hid (∀ y, Row (f y) qa ql q) := hide (fun y => (unhide HQ0).below ((unhide HBF) y))
          have C1 : Hid (∀ W, Calls Tryz.prog 42 #[.string x] W fun e w' => e = .returned (.bool true) ∧ w' = W) := hide (fun W => by have := l1Name_any x W (unhide HFI).1; rw [e1] at this; exact this)
          have C4 : Hid (∀ y, Calls Tryz.prog 43 #[.slice qa ql qc] (f y) fun e w' => e = .returned (.bool (riseB q)) ∧ ∃ n, w' = (f y).drewN n) := hide (fun y => l1Rise_any qa ql qc q (f y) (unhide HQ y))
          have C5 : Hid (∀ y, Calls Tryz.prog 44 #[.slice qa ql qc, .int .i64 0, .int .i64 9] (f y) fun e w' => e = .returned (.bool (allB q 0 9)) ∧ ∃ n, w' = (f y).drewN n) := hide (fun y => l1All_any qa ql qc q 0 9 (f y) (unhide HQ y))
          rw [e4] at C4
          clear hbf hall hV bV
          refine wp_region_bel (unhide HAL) (by kernel_rfl) (by kernel_rfl) ?_
          repeat (go_big_quiet_step ((first | (go_at_call 42; exact belS (unhide C1 _)) | (go_at_call 24; exact belS (l1In_is _ _ _ _ e3)) | (go_at_call 43; exact belN (unhide HF) (unhide HAL) (unhide C4 _)) | (go_at_call 44; exact belN (unhide HF) (unhide HAL) (unhide C5 _)))))
          refine wpQuiet_nil ?_
          rintro _ ⟨y, rfl⟩
          go_wp2_with fail
          go_ret
          exact ⟨ret_bool (unhide HE).symm, unhide HBF y⟩
        · have HE : Hid (wrB rs = false) := hide (wrB_not hlt (by unfold wrAtB; rw [unhide HV, hv]; rfl))
          clear hv
          go_wp2_with fail
          obtain ⟨V, hV⟩ : ∃ W, W = wr.alloc (Obj.cells #[.string x, .int .i64 r, .slice qa ql qc, .bool l, .string d] 51) := ⟨_, rfl⟩
          have KP : Hid (Blk V wr.heap.size [.string x, .int .i64 r, .slice qa ql qc, .bool l, .string d]) := hide (by rw [hV]; exact Blk.new _ _)
          have bV : Below wr.heap.size wr V := by rw [hV]; exact bel1 _
          rw [← hV]
          obtain ⟨ι, f, _, hbf, hall⟩ := belClass V
          have HF := hide hbf
          have HAL := hide hall
          have HBF : Hid (∀ y, Below w.heap.size w (f y)) := hide (fun y => (unhide HB).trans ((bV.trans ((hbf y).mono bV.size)).mono (unhide HB).size))
          have v0 : ∀ y, (f y).cell? ⟨wr.heap.size, 0, none⟩ = some (.string x) := fun y => ((unhide KP).below (hbf y)).c 0 (by simp)
          have v1 : ∀ y, (f y).cell? ⟨wr.heap.size, 1, none⟩ = some (.int .i64 r) := fun y => ((unhide KP).below (hbf y)).c 1 (by simp)
          have v2 : ∀ y, (f y).cell? ⟨wr.heap.size, 2, none⟩ = some (.slice qa ql qc) := fun y => ((unhide KP).below (hbf y)).c 2 (by simp)
          have v4 : ∀ y, (f y).cell? ⟨wr.heap.size, 4, none⟩ = some (.string d) := fun y => ((unhide KP).below (hbf y)).c 4 (by simp)
          have HQ : Hid (∀ y, Row (f y) qa ql q) := hide (fun y => (unhide HQ0).below ((unhide HBF) y))
          have C1 : Hid (∀ W, Calls Tryz.prog 42 #[.string x] W fun e w' => e = .returned (.bool true) ∧ w' = W) := hide (fun W => by have := l1Name_any x W (unhide HFI).1; rw [e1] at this; exact this)
          have C4 : Hid (∀ y, Calls Tryz.prog 43 #[.slice qa ql qc] (f y) fun e w' => e = .returned (.bool (riseB q)) ∧ ∃ n, w' = (f y).drewN n) := hide (fun y => l1Rise_any qa ql qc q (f y) (unhide HQ y))
          have C5 : Hid (∀ y, Calls Tryz.prog 44 #[.slice qa ql qc, .int .i64 0, .int .i64 9] (f y) fun e w' => e = .returned (.bool (allB q 0 9)) ∧ ∃ n, w' = (f y).drewN n) := hide (fun y => l1All_any qa ql qc q 0 9 (f y) (unhide HQ y))
          rw [e4] at C4
          rw [e5] at C5
          clear hbf hall hV bV
          refine wp_region_bel (unhide HAL) (by kernel_rfl) (by kernel_rfl) ?_
          repeat (go_big_quiet_step ((first | (go_at_call 42; exact belS (unhide C1 _)) | (go_at_call 24; exact belS (l1In_is _ _ _ _ e3)) | (go_at_call 43; exact belN (unhide HF) (unhide HAL) (unhide C4 _)) | (go_at_call 44; exact belN (unhide HF) (unhide HAL) (unhide C5 _)))))
          refine wpQuiet_nil ?_
          rintro _ ⟨y, rfl⟩
          go_wp2_with fail
          go_ret
          exact ⟨ret_bool (unhide HE).symm, unhide HBF y⟩
        · have HS : Hid (wrSB rs i = true) := hide (by rw [unhide HV, hv])
          clear hv
          go_wp2_with fail
          obtain ⟨V, hV⟩ : ∃ W, W = wr.alloc (Obj.cells #[.string x, .int .i64 r, .slice qa ql qc, .bool l, .string d] 51) := ⟨_, rfl⟩
          have KP : Hid (Blk V wr.heap.size [.string x, .int .i64 r, .slice qa ql qc, .bool l, .string d]) := hide (by rw [hV]; exact Blk.new _ _)
          have bV : Below wr.heap.size wr V := by rw [hV]; exact bel1 _
          rw [← hV]
          obtain ⟨ι, f, _, hbf, hall⟩ := belClass V
          have HF := hide hbf
          have HAL := hide hall
          have HBF : Hid (∀ y, Below w.heap.size w (f y)) := hide (fun y => (unhide HB).trans ((bV.trans ((hbf y).mono bV.size)).mono (unhide HB).size))
          have v0 : ∀ y, (f y).cell? ⟨wr.heap.size, 0, none⟩ = some (.string x) := fun y => ((unhide KP).below (hbf y)).c 0 (by simp)
          have v1 : ∀ y, (f y).cell? ⟨wr.heap.size, 1, none⟩ = some (.int .i64 r) := fun y => ((unhide KP).below (hbf y)).c 1 (by simp)
          have v2 : ∀ y, (f y).cell? ⟨wr.heap.size, 2, none⟩ = some (.slice qa ql qc) := fun y => ((unhide KP).below (hbf y)).c 2 (by simp)
          have v4 : ∀ y, (f y).cell? ⟨wr.heap.size, 4, none⟩ = some (.string d) := fun y => ((unhide KP).below (hbf y)).c 4 (by simp)
          have HQ : Hid (∀ y, Row (f y) qa ql q) := hide (fun y => (unhide HQ0).below ((unhide HBF) y))
          have C1 : Hid (∀ W, Calls Tryz.prog 42 #[.string x] W fun e w' => e = .returned (.bool true) ∧ w' = W) := hide (fun W => by have := l1Name_any x W (unhide HFI).1; rw [e1] at this; exact this)
          have C4 : Hid (∀ y, Calls Tryz.prog 43 #[.slice qa ql qc] (f y) fun e w' => e = .returned (.bool (riseB q)) ∧ ∃ n, w' = (f y).drewN n) := hide (fun y => l1Rise_any qa ql qc q (f y) (unhide HQ y))
          have C5 : Hid (∀ y, Calls Tryz.prog 44 #[.slice qa ql qc, .int .i64 0, .int .i64 9] (f y) fun e w' => e = .returned (.bool (allB q 0 9)) ∧ ∃ n, w' = (f y).drewN n) := hide (fun y => l1All_any qa ql qc q 0 9 (f y) (unhide HQ y))
          rw [e4] at C4
          rw [e5] at C5
          clear hbf hall hV bV
          refine wp_region_bel (unhide HAL) (by kernel_rfl) (by kernel_rfl) ?_
          repeat (go_big_quiet_step ((first | (go_at_call 42; exact belS (unhide C1 _)) | (go_at_call 24; exact belS (l1In_is _ _ _ _ e3)) | (go_at_call 43; exact belN (unhide HF) (unhide HAL) (unhide C4 _)) | (go_at_call 44; exact belN (unhide HF) (unhide HAL) (unhide C5 _)))))
          refine wpQuiet_nil ?_
          rintro _ ⟨y, rfl⟩
          obtain ⟨U, hU⟩ : ∃ U, U = f y := ⟨_, rfl⟩
          have u4 := v4 y
          have HBU := hide (unhide HBF y)
          rw [← hU] at u4 HBU ⊢
          have RU := hide ((unhide HR).below (unhide HBU))
          clear v0 v1 v2 v4 C1 C4 C5 HBF HF HAL HQ KP hU
          have e0 : (⟨#[]⟩ : ByteArray).toList = [] := by simp
          cases g : (d.toList == []) with
          | true =>
            have HA : Hid (wrAtB rs i = true) := hide (by unfold wrAtB wrDB sEq; rw [unhide HS, unhide HPP]; simp only [e0]; rw [g]; rfl)
            go_wp2_with fail
            go_roundw
            case rel => exact ⟨i + 1, by omega, by go_num, hide (fun j hj => by rcases Nat.lt_succ_iff_lt_or_eq.1 hj with h | h; exact unhide HN j h; subst h; exact unhide HA), HBU⟩
            case measure => simp [intOf]; omega
          | false =>
            have HD : Hid (wrAtB rs i = (decide (wfK rs d < rs.length) && decide (¬ wfK rs d = i) && sEq (elAt rs (wfK rs d)).d ⟨#[]⟩)) := hide (by
              have : sEq d ⟨#[]⟩ = false := by unfold sEq; rw [e0]; exact g
              unfold wrAtB wrDB; rw [unhide HS, unhide HPP]; simp only [this, Bool.false_or, Bool.true_and])
            have HI0 : Hid (wfI rs d = if wfK rs d < rs.length then (wfK rs d : Int) else -1) := hide rfl
            have HLE := hide (wfK_le rs d)
            have HFN : Hid (∀ W, RowW W (some ⟨bb, off, none⟩) rs.length rs → Calls Tryz.prog 45 #[.slice (some ⟨bb, off, none⟩) rs.length cap, .string d] W fun e w' => e = .returned (.int .i64 (wfI rs d)) ∧ w' = W) := hide (fun W hr => l14Find_any _ _ cap rs d W hr hl)
            obtain ⟨K, hK⟩ : ∃ K, wfK rs d = K := ⟨_, rfl⟩
            rw [hK] at HD HI0 HLE
            clear hK
            by_cases hk : K < rs.length
            · rw [if_pos hk] at HI0
              rw [unhide HI0] at HFN
              have hk0 : ¬ (K : Int) < 0 := by omega
              have hk1 : (0 : Int) ≤ (K : Int) := by omega
              have hk2 : (K : Int) < (rs.length : Int) := by omega
              by_cases hki : K = i
              · have HE : Hid (wrB rs = false) := hide (wrB_not hlt (by rw [unhide HD]; simp [hki]))
                have hki2 : ((K : Int) == (i : Int)) = true := by simp [hki]
                have HKI := hide hki
                clear hki
                go_wp2_with (go_at_call 45; refine ((unhide HFN) _ (unhide RU)).mono ?_; rintro e w' ⟨rfl, hw⟩; subst w')
                go_ret
                exact ⟨ret_bool (unhide HE).symm, unhide HBU⟩
              · have hki2 : ((K : Int) == (i : Int)) = false := by simp; omega
                obtain ⟨qa2, ql2, qc2, hat2, _, _, _⟩ := (unhide HO2) K hk
                have hat2 := hat2.below (unhide HBU)
                have z4 := hat2.c4
                obtain ⟨dd, hdd⟩ : ∃ dd, (elAt rs K).d = dd := ⟨_, rfl⟩
                rw [hdd] at z4
                rw [hdd] at HD
                have HKI := hide hki
                clear hat2 hdd
                cases g3 : (dd.toList == []) with
                | true =>
                  have HA : Hid (wrAtB rs i = true) := hide (by rw [unhide HD]; unfold sEq; simp only [e0]; rw [g3]; simp [hk, hki])
                  clear hki
                  go_wp2_with (go_at_call 45; refine ((unhide HFN) _ (unhide RU)).mono ?_; rintro e w' ⟨rfl, hw⟩; subst w')
                  go_roundw
                  case rel => exact ⟨i + 1, by omega, by go_num, hide (fun j hj => by rcases Nat.lt_succ_iff_lt_or_eq.1 hj with h | h; exact unhide HN j h; subst h; exact unhide HA), HBU⟩
                  case measure => simp [intOf]; omega
                | false =>
                  have HE : Hid (wrB rs = false) := hide (wrB_not hlt (by rw [unhide HD]; unfold sEq; simp only [e0]; rw [g3]; simp))
                  clear hki
                  go_wp2_with (go_at_call 45; refine ((unhide HFN) _ (unhide RU)).mono ?_; rintro e w' ⟨rfl, hw⟩; subst w')
                  go_ret
                  exact ⟨ret_bool (unhide HE).symm, unhide HBU⟩
            · rw [if_neg hk] at HI0
              rw [unhide HI0] at HFN
              have HE : Hid (wrB rs = false) := hide (wrB_not hlt (by rw [unhide HD]; simp [hk]))
              go_wp2_with (go_at_call 45; refine ((unhide HFN) _ (unhide RU)).mono ?_; rintro e w' ⟨rfl, hw⟩; subst w')
              go_ret
              exact ⟨ret_bool (unhide HE).symm, unhide HBU⟩
      · obtain ⟨j, hj⟩ : ∃ j, i = j + 1 := ⟨i - 1, by omega⟩
        obtain ⟨qa', ql', qc', hat', _, _, _⟩ := hc j (by omega)
        obtain ⟨z, hzz⟩ : ∃ z, (elAt rs j).n = z := ⟨_, rfl⟩
        have z0 := hat'.c0
        rw [hzz] at z0
        have HZ := hide z0
        have HV : Hid (wrSB rs i = (nameB x && Op.bytesLess z.toList x.toList && inB r 1 3 && riseB q && allB q 0 9)) := hide (by unfold wrSB; rw [unhide HPP, hj, Nat.add_sub_cancel, hzz]; simp [sLt])
        have hsub : (i : Int) - 1 = (j : Int) := by omega
        have hwr : IntKind.i64.wrap (j : Int) = (j : Int) := by rw [IntKind.wrap_i64]; omega
        have hj0 : (0 : Int) ≤ (j : Int) := by omega
        have hj1 : (j : Int) < (rs.length : Int) := by omega
        have hz1 : (0 : Int) < (i : Int) := by omega
        have hz2 : 0 < i := by omega
        have HJ := hide hj
        clear hc hi0 hj hzz z0 hat'
        rcases five (nameB x) (Op.bytesLess z.toList x.toList) (inB r 1 3) (riseB q) (allB q 0 9) with ⟨e1, hv⟩ | ⟨e1, e2, hv⟩ | ⟨e1, e2, e3, hv⟩ | ⟨e1, e2, e3, e4, hv⟩ | ⟨e1, e2, e3, e4, e5, hv⟩ | ⟨e1, e2, e3, e4, e5, hv⟩
        · have HE : Hid (wrB rs = false) := hide (wrB_not hlt (by unfold wrAtB; rw [unhide HV, hv]; rfl))
          clear hv
          go_wp2_with fail
          obtain ⟨V, hV⟩ : ∃ W, W = wr.alloc (Obj.cells #[.string x, .int .i64 r, .slice qa ql qc, .bool l, .string d] 51) := ⟨_, rfl⟩
          have KP : Hid (Blk V wr.heap.size [.string x, .int .i64 r, .slice qa ql qc, .bool l, .string d]) := hide (by rw [hV]; exact Blk.new _ _)
          have bV : Below wr.heap.size wr V := by rw [hV]; exact bel1 _
          rw [← hV]
          obtain ⟨ι, f, _, hbf, hall⟩ := belClass V
          have HF := hide hbf
          have HAL := hide hall
          have HBF : Hid (∀ y, Below w.heap.size w (f y)) := hide (fun y => (unhide HB).trans ((bV.trans ((hbf y).mono bV.size)).mono (unhide HB).size))
          have v0 : ∀ y, (f y).cell? ⟨wr.heap.size, 0, none⟩ = some (.string x) := fun y => ((unhide KP).below (hbf y)).c 0 (by simp)
          have v1 : ∀ y, (f y).cell? ⟨wr.heap.size, 1, none⟩ = some (.int .i64 r) := fun y => ((unhide KP).below (hbf y)).c 1 (by simp)
          have v2 : ∀ y, (f y).cell? ⟨wr.heap.size, 2, none⟩ = some (.slice qa ql qc) := fun y => ((unhide KP).below (hbf y)).c 2 (by simp)
          have v4 : ∀ y, (f y).cell? ⟨wr.heap.size, 4, none⟩ = some (.string d) := fun y => ((unhide KP).below (hbf y)).c 4 (by simp)
          have HQ : Hid (∀ y, Row (f y) qa ql q) := hide (fun y => (unhide HQ0).below ((unhide HBF) y))
          have n0 : ∀ y, (f y).cell? ⟨bb, off + j * 5, none⟩ = some (.string z) := fun y => ((unhide HBF y).cell (block_lt_of_cell (unhide HZ))).trans (unhide HZ)
          have C1 : Hid (∀ W, Calls Tryz.prog 42 #[.string x] W fun e w' => e = .returned (.bool false) ∧ w' = W) := hide (fun W => by have := l1Name_any x W (unhide HFI).1; rw [e1] at this; exact this)
          have C4 : Hid (∀ y, Calls Tryz.prog 43 #[.slice qa ql qc] (f y) fun e w' => e = .returned (.bool (riseB q)) ∧ ∃ n, w' = (f y).drewN n) := hide (fun y => l1Rise_any qa ql qc q (f y) (unhide HQ y))
          have C5 : Hid (∀ y, Calls Tryz.prog 44 #[.slice qa ql qc, .int .i64 0, .int .i64 9] (f y) fun e w' => e = .returned (.bool (allB q 0 9)) ∧ ∃ n, w' = (f y).drewN n) := hide (fun y => l1All_any qa ql qc q 0 9 (f y) (unhide HQ y))
          clear hbf hall hV bV
          refine wp_region_bel (unhide HAL) (by kernel_rfl) (by kernel_rfl) ?_
          repeat (go_big_quiet_step ((first | (go_at_call 42; exact belS (unhide C1 _)) | (go_at_call 24; exact belS (l1In_is _ _ _ _ e3)) | (go_at_call 43; exact belN (unhide HF) (unhide HAL) (unhide C4 _)) | (go_at_call 44; exact belN (unhide HF) (unhide HAL) (unhide C5 _)))))
          refine wpQuiet_nil ?_
          rintro _ ⟨y, rfl⟩
          go_wp2_with fail
          go_ret
          exact ⟨ret_bool (unhide HE).symm, unhide HBF y⟩
        · have HE : Hid (wrB rs = false) := hide (wrB_not hlt (by unfold wrAtB; rw [unhide HV, hv]; rfl))
          clear hv
          go_wp2_with fail
          obtain ⟨V, hV⟩ : ∃ W, W = wr.alloc (Obj.cells #[.string x, .int .i64 r, .slice qa ql qc, .bool l, .string d] 51) := ⟨_, rfl⟩
          have KP : Hid (Blk V wr.heap.size [.string x, .int .i64 r, .slice qa ql qc, .bool l, .string d]) := hide (by rw [hV]; exact Blk.new _ _)
          have bV : Below wr.heap.size wr V := by rw [hV]; exact bel1 _
          rw [← hV]
          obtain ⟨ι, f, _, hbf, hall⟩ := belClass V
          have HF := hide hbf
          have HAL := hide hall
          have HBF : Hid (∀ y, Below w.heap.size w (f y)) := hide (fun y => (unhide HB).trans ((bV.trans ((hbf y).mono bV.size)).mono (unhide HB).size))
          have v0 : ∀ y, (f y).cell? ⟨wr.heap.size, 0, none⟩ = some (.string x) := fun y => ((unhide KP).below (hbf y)).c 0 (by simp)
          have v1 : ∀ y, (f y).cell? ⟨wr.heap.size, 1, none⟩ = some (.int .i64 r) := fun y => ((unhide KP).below (hbf y)).c 1 (by simp)
          have v2 : ∀ y, (f y).cell? ⟨wr.heap.size, 2, none⟩ = some (.slice qa ql qc) := fun y => ((unhide KP).below (hbf y)).c 2 (by simp)
          have v4 : ∀ y, (f y).cell? ⟨wr.heap.size, 4, none⟩ = some (.string d) := fun y => ((unhide KP).below (hbf y)).c 4 (by simp)
          have HQ : Hid (∀ y, Row (f y) qa ql q) := hide (fun y => (unhide HQ0).below ((unhide HBF) y))
          have n0 : ∀ y, (f y).cell? ⟨bb, off + j * 5, none⟩ = some (.string z) := fun y => ((unhide HBF y).cell (block_lt_of_cell (unhide HZ))).trans (unhide HZ)
          have C1 : Hid (∀ W, Calls Tryz.prog 42 #[.string x] W fun e w' => e = .returned (.bool true) ∧ w' = W) := hide (fun W => by have := l1Name_any x W (unhide HFI).1; rw [e1] at this; exact this)
          have C4 : Hid (∀ y, Calls Tryz.prog 43 #[.slice qa ql qc] (f y) fun e w' => e = .returned (.bool (riseB q)) ∧ ∃ n, w' = (f y).drewN n) := hide (fun y => l1Rise_any qa ql qc q (f y) (unhide HQ y))
          have C5 : Hid (∀ y, Calls Tryz.prog 44 #[.slice qa ql qc, .int .i64 0, .int .i64 9] (f y) fun e w' => e = .returned (.bool (allB q 0 9)) ∧ ∃ n, w' = (f y).drewN n) := hide (fun y => l1All_any qa ql qc q 0 9 (f y) (unhide HQ y))
          clear hbf hall hV bV
          refine wp_region_bel (unhide HAL) (by kernel_rfl) (by kernel_rfl) ?_
          repeat (go_big_quiet_step ((first | (go_at_call 42; exact belS (unhide C1 _)) | (go_at_call 24; exact belS (l1In_is _ _ _ _ e3)) | (go_at_call 43; exact belN (unhide HF) (unhide HAL) (unhide C4 _)) | (go_at_call 44; exact belN (unhide HF) (unhide HAL) (unhide C5 _)))))
          refine wpQuiet_nil ?_
          rintro _ ⟨y, rfl⟩
          go_wp2_with fail
          go_ret
          exact ⟨ret_bool (unhide HE).symm, unhide HBF y⟩
        · have HE : Hid (wrB rs = false) := hide (wrB_not hlt (by unfold wrAtB; rw [unhide HV, hv]; rfl))
          clear hv
          go_wp2_with fail
          obtain ⟨V, hV⟩ : ∃ W, W = wr.alloc (Obj.cells #[.string x, .int .i64 r, .slice qa ql qc, .bool l, .string d] 51) := ⟨_, rfl⟩
          have KP : Hid (Blk V wr.heap.size [.string x, .int .i64 r, .slice qa ql qc, .bool l, .string d]) := hide (by rw [hV]; exact Blk.new _ _)
          have bV : Below wr.heap.size wr V := by rw [hV]; exact bel1 _
          rw [← hV]
          obtain ⟨ι, f, _, hbf, hall⟩ := belClass V
          have HF := hide hbf
          have HAL := hide hall
          have HBF : Hid (∀ y, Below w.heap.size w (f y)) := hide (fun y => (unhide HB).trans ((bV.trans ((hbf y).mono bV.size)).mono (unhide HB).size))
          have v0 : ∀ y, (f y).cell? ⟨wr.heap.size, 0, none⟩ = some (.string x) := fun y => ((unhide KP).below (hbf y)).c 0 (by simp)
          have v1 : ∀ y, (f y).cell? ⟨wr.heap.size, 1, none⟩ = some (.int .i64 r) := fun y => ((unhide KP).below (hbf y)).c 1 (by simp)
          have v2 : ∀ y, (f y).cell? ⟨wr.heap.size, 2, none⟩ = some (.slice qa ql qc) := fun y => ((unhide KP).below (hbf y)).c 2 (by simp)
          have v4 : ∀ y, (f y).cell? ⟨wr.heap.size, 4, none⟩ = some (.string d) := fun y => ((unhide KP).below (hbf y)).c 4 (by simp)
          have HQ : Hid (∀ y, Row (f y) qa ql q) := hide (fun y => (unhide HQ0).below ((unhide HBF) y))
          have n0 : ∀ y, (f y).cell? ⟨bb, off + j * 5, none⟩ = some (.string z) := fun y => ((unhide HBF y).cell (block_lt_of_cell (unhide HZ))).trans (unhide HZ)
          have C1 : Hid (∀ W, Calls Tryz.prog 42 #[.string x] W fun e w' => e = .returned (.bool true) ∧ w' = W) := hide (fun W => by have := l1Name_any x W (unhide HFI).1; rw [e1] at this; exact this)
          have C4 : Hid (∀ y, Calls Tryz.prog 43 #[.slice qa ql qc] (f y) fun e w' => e = .returned (.bool (riseB q)) ∧ ∃ n, w' = (f y).drewN n) := hide (fun y => l1Rise_any qa ql qc q (f y) (unhide HQ y))
          have C5 : Hid (∀ y, Calls Tryz.prog 44 #[.slice qa ql qc, .int .i64 0, .int .i64 9] (f y) fun e w' => e = .returned (.bool (allB q 0 9)) ∧ ∃ n, w' = (f y).drewN n) := hide (fun y => l1All_any qa ql qc q 0 9 (f y) (unhide HQ y))
          clear hbf hall hV bV
          refine wp_region_bel (unhide HAL) (by kernel_rfl) (by kernel_rfl) ?_
          repeat (go_big_quiet_step ((first | (go_at_call 42; exact belS (unhide C1 _)) | (go_at_call 24; exact belS (l1In_is _ _ _ _ e3)) | (go_at_call 43; exact belN (unhide HF) (unhide HAL) (unhide C4 _)) | (go_at_call 44; exact belN (unhide HF) (unhide HAL) (unhide C5 _)))))
          refine wpQuiet_nil ?_
          rintro _ ⟨y, rfl⟩
          go_wp2_with fail
          go_ret
          exact ⟨ret_bool (unhide HE).symm, unhide HBF y⟩
        · have HE : Hid (wrB rs = false) := hide (wrB_not hlt (by unfold wrAtB; rw [unhide HV, hv]; rfl))
          clear hv
          go_wp2_with fail
          obtain ⟨V, hV⟩ : ∃ W, W = wr.alloc (Obj.cells #[.string x, .int .i64 r, .slice qa ql qc, .bool l, .string d] 51) := ⟨_, rfl⟩
          have KP : Hid (Blk V wr.heap.size [.string x, .int .i64 r, .slice qa ql qc, .bool l, .string d]) := hide (by rw [hV]; exact Blk.new _ _)
          have bV : Below wr.heap.size wr V := by rw [hV]; exact bel1 _
          rw [← hV]
          obtain ⟨ι, f, _, hbf, hall⟩ := belClass V
          have HF := hide hbf
          have HAL := hide hall
          have HBF : Hid (∀ y, Below w.heap.size w (f y)) := hide (fun y => (unhide HB).trans ((bV.trans ((hbf y).mono bV.size)).mono (unhide HB).size))
          have v0 : ∀ y, (f y).cell? ⟨wr.heap.size, 0, none⟩ = some (.string x) := fun y => ((unhide KP).below (hbf y)).c 0 (by simp)
          have v1 : ∀ y, (f y).cell? ⟨wr.heap.size, 1, none⟩ = some (.int .i64 r) := fun y => ((unhide KP).below (hbf y)).c 1 (by simp)
          have v2 : ∀ y, (f y).cell? ⟨wr.heap.size, 2, none⟩ = some (.slice qa ql qc) := fun y => ((unhide KP).below (hbf y)).c 2 (by simp)
          have v4 : ∀ y, (f y).cell? ⟨wr.heap.size, 4, none⟩ = some (.string d) := fun y => ((unhide KP).below (hbf y)).c 4 (by simp)
          have HQ : Hid (∀ y, Row (f y) qa ql q) := hide (fun y => (unhide HQ0).below ((unhide HBF) y))
          have n0 : ∀ y, (f y).cell? ⟨bb, off + j * 5, none⟩ = some (.string z) := fun y => ((unhide HBF y).cell (block_lt_of_cell (unhide HZ))).trans (unhide HZ)
          have C1 : Hid (∀ W, Calls Tryz.prog 42 #[.string x] W fun e w' => e = .returned (.bool true) ∧ w' = W) := hide (fun W => by have := l1Name_any x W (unhide HFI).1; rw [e1] at this; exact this)
          have C4 : Hid (∀ y, Calls Tryz.prog 43 #[.slice qa ql qc] (f y) fun e w' => e = .returned (.bool (riseB q)) ∧ ∃ n, w' = (f y).drewN n) := hide (fun y => l1Rise_any qa ql qc q (f y) (unhide HQ y))
          have C5 : Hid (∀ y, Calls Tryz.prog 44 #[.slice qa ql qc, .int .i64 0, .int .i64 9] (f y) fun e w' => e = .returned (.bool (allB q 0 9)) ∧ ∃ n, w' = (f y).drewN n) := hide (fun y => l1All_any qa ql qc q 0 9 (f y) (unhide HQ y))
          rw [e4] at C4
          clear hbf hall hV bV
          refine wp_region_bel (unhide HAL) (by kernel_rfl) (by kernel_rfl) ?_
          repeat (go_big_quiet_step ((first | (go_at_call 42; exact belS (unhide C1 _)) | (go_at_call 24; exact belS (l1In_is _ _ _ _ e3)) | (go_at_call 43; exact belN (unhide HF) (unhide HAL) (unhide C4 _)) | (go_at_call 44; exact belN (unhide HF) (unhide HAL) (unhide C5 _)))))
          refine wpQuiet_nil ?_
          rintro _ ⟨y, rfl⟩
          go_wp2_with fail
          go_ret
          exact ⟨ret_bool (unhide HE).symm, unhide HBF y⟩
        · have HE : Hid (wrB rs = false) := hide (wrB_not hlt (by unfold wrAtB; rw [unhide HV, hv]; rfl))
          clear hv
          go_wp2_with fail
          obtain ⟨V, hV⟩ : ∃ W, W = wr.alloc (Obj.cells #[.string x, .int .i64 r, .slice qa ql qc, .bool l, .string d] 51) := ⟨_, rfl⟩
          have KP : Hid (Blk V wr.heap.size [.string x, .int .i64 r, .slice qa ql qc, .bool l, .string d]) := hide (by rw [hV]; exact Blk.new _ _)
          have bV : Below wr.heap.size wr V := by rw [hV]; exact bel1 _
          rw [← hV]
          obtain ⟨ι, f, _, hbf, hall⟩ := belClass V
          have HF := hide hbf
          have HAL := hide hall
          have HBF : Hid (∀ y, Below w.heap.size w (f y)) := hide (fun y => (unhide HB).trans ((bV.trans ((hbf y).mono bV.size)).mono (unhide HB).size))
          have v0 : ∀ y, (f y).cell? ⟨wr.heap.size, 0, none⟩ = some (.string x) := fun y => ((unhide KP).below (hbf y)).c 0 (by simp)
          have v1 : ∀ y, (f y).cell? ⟨wr.heap.size, 1, none⟩ = some (.int .i64 r) := fun y => ((unhide KP).below (hbf y)).c 1 (by simp)
          have v2 : ∀ y, (f y).cell? ⟨wr.heap.size, 2, none⟩ = some (.slice qa ql qc) := fun y => ((unhide KP).below (hbf y)).c 2 (by simp)
          have v4 : ∀ y, (f y).cell? ⟨wr.heap.size, 4, none⟩ = some (.string d) := fun y => ((unhide KP).below (hbf y)).c 4 (by simp)
          have HQ : Hid (∀ y, Row (f y) qa ql q) := hide (fun y => (unhide HQ0).below ((unhide HBF) y))
          have n0 : ∀ y, (f y).cell? ⟨bb, off + j * 5, none⟩ = some (.string z) := fun y => ((unhide HBF y).cell (block_lt_of_cell (unhide HZ))).trans (unhide HZ)
          have C1 : Hid (∀ W, Calls Tryz.prog 42 #[.string x] W fun e w' => e = .returned (.bool true) ∧ w' = W) := hide (fun W => by have := l1Name_any x W (unhide HFI).1; rw [e1] at this; exact this)
          have C4 : Hid (∀ y, Calls Tryz.prog 43 #[.slice qa ql qc] (f y) fun e w' => e = .returned (.bool (riseB q)) ∧ ∃ n, w' = (f y).drewN n) := hide (fun y => l1Rise_any qa ql qc q (f y) (unhide HQ y))
          have C5 : Hid (∀ y, Calls Tryz.prog 44 #[.slice qa ql qc, .int .i64 0, .int .i64 9] (f y) fun e w' => e = .returned (.bool (allB q 0 9)) ∧ ∃ n, w' = (f y).drewN n) := hide (fun y => l1All_any qa ql qc q 0 9 (f y) (unhide HQ y))
          rw [e4] at C4
          rw [e5] at C5
          clear hbf hall hV bV
          refine wp_region_bel (unhide HAL) (by kernel_rfl) (by kernel_rfl) ?_
          repeat (go_big_quiet_step ((first | (go_at_call 42; exact belS (unhide C1 _)) | (go_at_call 24; exact belS (l1In_is _ _ _ _ e3)) | (go_at_call 43; exact belN (unhide HF) (unhide HAL) (unhide C4 _)) | (go_at_call 44; exact belN (unhide HF) (unhide HAL) (unhide C5 _)))))
          refine wpQuiet_nil ?_
          rintro _ ⟨y, rfl⟩
          go_wp2_with fail
          go_ret
          exact ⟨ret_bool (unhide HE).symm, unhide HBF y⟩
        · have HS : Hid (wrSB rs i = true) := hide (by rw [unhide HV, hv])
          clear hv
          go_wp2_with fail
          obtain ⟨V, hV⟩ : ∃ W, W = wr.alloc (Obj.cells #[.string x, .int .i64 r, .slice qa ql qc, .bool l, .string d] 51) := ⟨_, rfl⟩
          have KP : Hid (Blk V wr.heap.size [.string x, .int .i64 r, .slice qa ql qc, .bool l, .string d]) := hide (by rw [hV]; exact Blk.new _ _)
          have bV : Below wr.heap.size wr V := by rw [hV]; exact bel1 _
          rw [← hV]
          obtain ⟨ι, f, _, hbf, hall⟩ := belClass V
          have HF := hide hbf
          have HAL := hide hall
          have HBF : Hid (∀ y, Below w.heap.size w (f y)) := hide (fun y => (unhide HB).trans ((bV.trans ((hbf y).mono bV.size)).mono (unhide HB).size))
          have v0 : ∀ y, (f y).cell? ⟨wr.heap.size, 0, none⟩ = some (.string x) := fun y => ((unhide KP).below (hbf y)).c 0 (by simp)
          have v1 : ∀ y, (f y).cell? ⟨wr.heap.size, 1, none⟩ = some (.int .i64 r) := fun y => ((unhide KP).below (hbf y)).c 1 (by simp)
          have v2 : ∀ y, (f y).cell? ⟨wr.heap.size, 2, none⟩ = some (.slice qa ql qc) := fun y => ((unhide KP).below (hbf y)).c 2 (by simp)
          have v4 : ∀ y, (f y).cell? ⟨wr.heap.size, 4, none⟩ = some (.string d) := fun y => ((unhide KP).below (hbf y)).c 4 (by simp)
          have HQ : Hid (∀ y, Row (f y) qa ql q) := hide (fun y => (unhide HQ0).below ((unhide HBF) y))
          have n0 : ∀ y, (f y).cell? ⟨bb, off + j * 5, none⟩ = some (.string z) := fun y => ((unhide HBF y).cell (block_lt_of_cell (unhide HZ))).trans (unhide HZ)
          have C1 : Hid (∀ W, Calls Tryz.prog 42 #[.string x] W fun e w' => e = .returned (.bool true) ∧ w' = W) := hide (fun W => by have := l1Name_any x W (unhide HFI).1; rw [e1] at this; exact this)
          have C4 : Hid (∀ y, Calls Tryz.prog 43 #[.slice qa ql qc] (f y) fun e w' => e = .returned (.bool (riseB q)) ∧ ∃ n, w' = (f y).drewN n) := hide (fun y => l1Rise_any qa ql qc q (f y) (unhide HQ y))
          have C5 : Hid (∀ y, Calls Tryz.prog 44 #[.slice qa ql qc, .int .i64 0, .int .i64 9] (f y) fun e w' => e = .returned (.bool (allB q 0 9)) ∧ ∃ n, w' = (f y).drewN n) := hide (fun y => l1All_any qa ql qc q 0 9 (f y) (unhide HQ y))
          rw [e4] at C4
          rw [e5] at C5
          clear hbf hall hV bV
          refine wp_region_bel (unhide HAL) (by kernel_rfl) (by kernel_rfl) ?_
          repeat (go_big_quiet_step ((first | (go_at_call 42; exact belS (unhide C1 _)) | (go_at_call 24; exact belS (l1In_is _ _ _ _ e3)) | (go_at_call 43; exact belN (unhide HF) (unhide HAL) (unhide C4 _)) | (go_at_call 44; exact belN (unhide HF) (unhide HAL) (unhide C5 _)))))
          refine wpQuiet_nil ?_
          rintro _ ⟨y, rfl⟩
          obtain ⟨U, hU⟩ : ∃ U, U = f y := ⟨_, rfl⟩
          have u4 := v4 y
          have HBU := hide (unhide HBF y)
          rw [← hU] at u4 HBU ⊢
          have RU := hide ((unhide HR).below (unhide HBU))
          clear v0 v1 v2 v4 C1 C4 C5 HBF HF HAL HQ KP n0 hU
          have e0 : (⟨#[]⟩ : ByteArray).toList = [] := by simp
          cases g : (d.toList == []) with
          | true =>
            have HA : Hid (wrAtB rs i = true) := hide (by unfold wrAtB wrDB sEq; rw [unhide HS, unhide HPP]; simp only [e0]; rw [g]; rfl)
            go_wp2_with fail
            go_roundw
            case rel => exact ⟨i + 1, by omega, by go_num, hide (fun j hj => by rcases Nat.lt_succ_iff_lt_or_eq.1 hj with h | h; exact unhide HN j h; subst h; exact unhide HA), HBU⟩
            case measure => simp [intOf]; omega
          | false =>
            have HD : Hid (wrAtB rs i = (decide (wfK rs d < rs.length) && decide (¬ wfK rs d = i) && sEq (elAt rs (wfK rs d)).d ⟨#[]⟩)) := hide (by
              have : sEq d ⟨#[]⟩ = false := by unfold sEq; rw [e0]; exact g
              unfold wrAtB wrDB; rw [unhide HS, unhide HPP]; simp only [this, Bool.false_or, Bool.true_and])
            have HI0 : Hid (wfI rs d = if wfK rs d < rs.length then (wfK rs d : Int) else -1) := hide rfl
            have HLE := hide (wfK_le rs d)
            have HFN : Hid (∀ W, RowW W (some ⟨bb, off, none⟩) rs.length rs → Calls Tryz.prog 45 #[.slice (some ⟨bb, off, none⟩) rs.length cap, .string d] W fun e w' => e = .returned (.int .i64 (wfI rs d)) ∧ w' = W) := hide (fun W hr => l14Find_any _ _ cap rs d W hr hl)
            obtain ⟨K, hK⟩ : ∃ K, wfK rs d = K := ⟨_, rfl⟩
            rw [hK] at HD HI0 HLE
            clear hK
            by_cases hk : K < rs.length
            · rw [if_pos hk] at HI0
              rw [unhide HI0] at HFN
              have hk0 : ¬ (K : Int) < 0 := by omega
              have hk1 : (0 : Int) ≤ (K : Int) := by omega
              have hk2 : (K : Int) < (rs.length : Int) := by omega
              by_cases hki : K = i
              · have HE : Hid (wrB rs = false) := hide (wrB_not hlt (by rw [unhide HD]; simp [hki]))
                have hki2 : ((K : Int) == (i : Int)) = true := by simp [hki]
                have HKI := hide hki
                clear hki
                go_wp2_with (go_at_call 45; refine ((unhide HFN) _ (unhide RU)).mono ?_; rintro e w' ⟨rfl, hw⟩; subst w')
                go_ret
                exact ⟨ret_bool (unhide HE).symm, unhide HBU⟩
              · have hki2 : ((K : Int) == (i : Int)) = false := by simp; omega
                obtain ⟨qa2, ql2, qc2, hat2, _, _, _⟩ := (unhide HO2) K hk
                have hat2 := hat2.below (unhide HBU)
                have z4 := hat2.c4
                obtain ⟨dd, hdd⟩ : ∃ dd, (elAt rs K).d = dd := ⟨_, rfl⟩
                rw [hdd] at z4
                rw [hdd] at HD
                have HKI := hide hki
                clear hat2 hdd
                cases g3 : (dd.toList == []) with
                | true =>
                  have HA : Hid (wrAtB rs i = true) := hide (by rw [unhide HD]; unfold sEq; simp only [e0]; rw [g3]; simp [hk, hki])
                  clear hki
                  go_wp2_with (go_at_call 45; refine ((unhide HFN) _ (unhide RU)).mono ?_; rintro e w' ⟨rfl, hw⟩; subst w')
                  go_roundw
                  case rel => exact ⟨i + 1, by omega, by go_num, hide (fun j hj => by rcases Nat.lt_succ_iff_lt_or_eq.1 hj with h | h; exact unhide HN j h; subst h; exact unhide HA), HBU⟩
                  case measure => simp [intOf]; omega
                | false =>
                  have HE : Hid (wrB rs = false) := hide (wrB_not hlt (by rw [unhide HD]; unfold sEq; simp only [e0]; rw [g3]; simp))
                  clear hki
                  go_wp2_with (go_at_call 45; refine ((unhide HFN) _ (unhide RU)).mono ?_; rintro e w' ⟨rfl, hw⟩; subst w')
                  go_ret
                  exact ⟨ret_bool (unhide HE).symm, unhide HBU⟩
            · rw [if_neg hk] at HI0
              rw [unhide HI0] at HFN
              have HE : Hid (wrB rs = false) := hide (wrB_not hlt (by rw [unhide HD]; simp [hk]))
              go_wp2_with (go_at_call 45; refine ((unhide HFN) _ (unhide RU)).mono ?_; rintro e w' ⟨rfl, hw⟩; subst w')
              go_ret
              exact ⟨ret_bool (unhide HE).symm, unhide HBU⟩
    · have k1 : ¬ (i : Int) < (rs.length : Int) := by omega
      have HE := hide (wrB_all (rs := rs) (fun j hj => unhide HN j (by omega)))
      go_wp2_with fail
      go_ret
      exact ⟨ret_bool (by rw [unhide HE]; congr 1; apply propext; omega), unhide HB⟩

end Go.Proofs.YtbaocifpifbldawGreat

namespace Go.Proofs.YtbaocifpifbldawGreat
open Go.RowKit

set_option maxRecDepth 20000 in
set_option maxHeartbeats 1000000 in
theorem l14Has_any (ad : Option Addr) (len cap : Nat) (ts : List ByteArray) (s : ByteArray) (w : World) (hr : RowE 1 stC w ad len ts) (hl : len ≤ 1048576) :
    Calls Tryz.prog 25 #[.slice ad len cap, .string s] w fun e w' => e = .returned (.bool (hasB ts s)) ∧ w' = w := by
  have hz := hr.len_eq
  have HO := hide hr.open1
  clear hr
  subst hz
  go_enter Tryz.func25, Tryz.ntmps25
  go_wp2_with fail
  go_loopw [5] (fun s5 wr => ∃ i : Nat, i ≤ ts.length ∧ s5 = .int .i64 (i : Int) ∧ Hid (∀ j, j < i → sEq (elAt ts j) s = false) ∧ wr = w) (fun s5 _ => ts.length - (intOf s5).toNat)
  case atStart => exact ⟨0, Nat.zero_le _, rfl, hide (fun j hj => by omega), rfl⟩
  case round =>
    obtain ⟨i, hi, rfl, HN, hwr⟩ := hrel
    subst wr
    by_cases hlt : i < ts.length
    · rcases (unhide HO) with ⟨h0, _⟩ | ⟨bb, off, rfl, _, hc⟩
      · omega
      have m0 : w.cell? ⟨bb, off + i, none⟩ = some (.string (elAt ts i)) := hc i hlt
      have k0 : (0 : Int) ≤ (i : Int) := by omega
      have k1 : (i : Int) < (ts.length : Int) := by omega
      obtain ⟨x, hx⟩ : ∃ x, elAt ts i = x := ⟨_, rfl⟩
      rw [hx] at m0
      have HX := hide hx
      clear hx hc
      cases g : (x.toList == s.toList) with
      | true =>
        have HE : Hid (hasB ts s = true) := hide (hasB_yes hlt (by rw [unhide HX]; exact g))
        go_wp2_with fail
        go_ret
        exact ⟨ret_bool (unhide HE).symm, rfl⟩
      | false =>
        have HG : Hid (sEq (elAt ts i) s = false) := hide (by rw [unhide HX]; exact g)
        go_wp2_with fail
        go_roundw
        case rel => exact ⟨i + 1, by omega, by go_num, hide (fun j hj => by rcases Nat.lt_succ_iff_lt_or_eq.1 hj with h | h; exact unhide HN j h; subst h; exact unhide HG), by first | rfl | trivial⟩
        case measure => simp [intOf]; omega
    · have k1 : ¬ (i : Int) < (ts.length : Int) := by omega
      have HE : Hid (hasB ts s = false) := hide (hasB_no (fun j hj => unhide HN j (by omega)))
      go_wp2_with fail
      go_ret
      exact ⟨ret_bool (unhide HE).symm, rfl⟩

set_option maxRecDepth 20000 in
set_option maxHeartbeats 1000000 in
theorem l14Names_any (ad : Option Addr) (len cap : Nat) (rs : List Wr) (bd : Option Addr) (len2 cap2 : Nat) (ts : List ByteArray) (w : World) (hr : RowW w ad len rs) (hl : len ≤ 1048576) (hr2 : RowE 1 stC w bd len2 ts) (hl2 : len2 ≤ 1048576) :
    Calls Tryz.prog 23 #[.slice ad len cap, .slice bd len2 cap2] w fun e w' => e = .returned (.bool (nmB rs ts)) ∧ Below w.heap.size w w' := by
  have hz := hr.len_eq
  have hz2 := hr2.len_eq
  subst hz
  subst hz2
  have HR := hide hr
  have HO2 := hide hr2.open1
  clear hr hr2
  go_enter Tryz.func23, Tryz.ntmps23
  go_wp2_with fail
  go_loopw [5] (fun s5 wr => ∃ i : Nat, i ≤ ts.length ∧ s5 = .int .i64 (i : Int) ∧ Hid (∀ j, j < i → nmAt rs ts j = true) ∧ Hid (Below w.heap.size w wr)) (fun s5 _ => ts.length - (intOf s5).toNat)
  case atStart => exact ⟨0, Nat.zero_le _, rfl, hide (fun j hj => by omega), hide (Below.refl _ _)⟩
  case round =>
    obtain ⟨i, hi, rfl, HN, HB⟩ := hrel
    by_cases hlt : i < ts.length
    · rcases (unhide HO2) with ⟨h0, _⟩ | ⟨bb, off, rfl, _, hc⟩
      · omega
      obtain ⟨ι, f, _, hbf, hall⟩ := belClass wr
      have HF := hide hbf
      have HAL := hide hall
      have HBF : Hid (∀ y, Below w.heap.size w (f y)) := hide (fun y => (unhide HB).trans ((hbf y).mono (unhide HB).size))
      have m0 : ∀ y, (f y).cell? ⟨bb, off + i, none⟩ = some (.string (elAt ts i)) := fun y => ((unhide HBF y).cell (block_lt_of_cell (hc i hlt))).trans (hc i hlt)
      clear hbf hall
      have k0 : (0 : Int) ≤ (i : Int) := by omega
      have k1 : (i : Int) < (ts.length : Int) := by omega
      obtain ⟨d, hd⟩ : ∃ d, elAt ts i = d := ⟨_, rfl⟩
      simp only [hd] at m0
      have HFN : Hid (∀ y, Calls Tryz.prog 45 #[.slice ad rs.length cap, .string d] (f y) fun e w' => e = .returned (.int .i64 (wfI rs d)) ∧ w' = f y) := hide (fun y => l14Find_any _ _ cap rs d (f y) ((unhide HR).below (unhide HBF y)) hl)
      have HI0 : Hid (wfI rs d = if wfK rs d < rs.length then (wfK rs d : Int) else -1) := hide rfl
      have HV : Hid (nmAt rs ts i = (decide (wfK rs d < rs.length) && (decide (i = 0) || sLt (elAt ts (i - 1)) d))) := hide (by unfold nmAt; rw [hd])
      obtain ⟨K, hK⟩ : ∃ K, wfK rs d = K := ⟨_, rfl⟩
      rw [hK] at HI0 HV
      clear hK hd
      by_cases hk : K < rs.length
      · rw [if_pos hk] at HI0
        rw [unhide HI0] at HFN
        have hk0 : decide ((K : Int) < 0) = false := decide_eq_false (by omega)
        by_cases hi0 : i = 0
        · have HA : Hid (nmAt rs ts i = true) := hide (by rw [unhide HV]; simp [hk, hi0])
          have hz1 : ¬ (0 : Int) < (i : Int) := by omega
          have hz2 : ¬ 0 < i := by omega
          have HI := hide hi0
          clear hc hi0
          go_wp2_with fail
          refine wp_region_bel (unhide HAL) (by kernel_rfl) (by kernel_rfl) ?_
          repeat (go_big_quiet_step ((go_at_call 45; exact belS (unhide HFN _))))
          refine wpQuiet_nil ?_
          rintro _ ⟨y, rfl⟩
          go_wp2_with fail
          go_roundw
          case rel => exact ⟨i + 1, by omega, by go_num, hide (fun j hj => by rcases Nat.lt_succ_iff_lt_or_eq.1 hj with h | h; exact unhide HN j h; subst h; exact unhide HA), hide (unhide HBF y)⟩
          case measure => simp [intOf]; omega
        · obtain ⟨j, hj⟩ : ∃ j, i = j + 1 := ⟨i - 1, by omega⟩
          have n0 : ∀ y, (f y).cell? ⟨bb, off + j, none⟩ = some (.string (elAt ts j)) := fun y => ((unhide HBF y).cell (block_lt_of_cell (hc j (by omega)))).trans (hc j (by omega))
          obtain ⟨z, hz⟩ : ∃ z, elAt ts j = z := ⟨_, rfl⟩
          simp only [hz] at n0
          have HV2 : Hid (nmAt rs ts i = Op.bytesLess z.toList d.toList) := hide (by rw [unhide HV, hj, Nat.add_sub_cancel, hz]; simp [hk, sLt])
          have hsub : (i : Int) - 1 = (j : Int) := by omega
          have hwr : IntKind.i64.wrap (j : Int) = (j : Int) := by rw [IntKind.wrap_i64]; omega
          have hj0 : (0 : Int) ≤ (j : Int) := by omega
          have hj1 : (j : Int) < (ts.length : Int) := by omega
          have hz1 : (0 : Int) < (i : Int) := by omega
          have hz2 : 0 < i := by omega
          have HJ := hide hj
          clear hc hi0 hj hz
          cases g : Op.bytesLess z.toList d.toList with
          | true =>
            rw [g] at HV2
            go_wp2_with fail
            refine wp_region_bel (unhide HAL) (by kernel_rfl) (by kernel_rfl) ?_
            repeat (go_big_quiet_step ((go_at_call 45; exact belS (unhide HFN _))))
            refine wpQuiet_nil ?_
            rintro _ ⟨y, rfl⟩
            go_wp2_with fail
            go_roundw
            case rel => exact ⟨i + 1, by omega, by go_num, hide (fun j hj => by rcases Nat.lt_succ_iff_lt_or_eq.1 hj with h | h; exact unhide HN j h; subst h; exact unhide HV2), hide (unhide HBF y)⟩
            case measure => simp [intOf]; omega
          | false =>
            rw [g] at HV2
            have HE := hide (nmB_not hlt (unhide HV2))
            go_wp2_with fail
            refine wp_region_bel (unhide HAL) (by kernel_rfl) (by kernel_rfl) ?_
            repeat (go_big_quiet_step ((go_at_call 45; exact belS (unhide HFN _))))
            refine wpQuiet_nil ?_
            rintro _ ⟨y, rfl⟩
            go_wp2_with fail
            go_ret
            exact ⟨ret_bool (unhide HE).symm, unhide HBF y⟩
      · rw [if_neg hk] at HI0
        rw [unhide HI0] at HFN
        have HE := hide (nmB_not hlt (by rw [unhide HV]; simp [hk]))
        clear hc
        go_wp2_with fail
        refine wp_region_bel (unhide HAL) (by kernel_rfl) (by kernel_rfl) ?_
        repeat (go_big_quiet_step ((go_at_call 45; exact belS (unhide HFN _))))
        refine wpQuiet_nil ?_
        rintro _ ⟨y, rfl⟩
        go_wp2_with fail
        go_ret
        exact ⟨ret_bool (unhide HE).symm, unhide HBF y⟩
    · have k1 : ¬ (i : Int) < (ts.length : Int) := by omega
      have HE : Hid (nmB rs ts = true) := hide (nmB_all (fun j hj => unhide HN j (by omega)))
      go_wp2_with fail
      go_ret
      exact ⟨ret_bool (unhide HE).symm, unhide HB⟩

end Go.Proofs.YtbaocifpifbldawGreat

namespace Go.Proofs.YtbaocifpifbldawGreat
open Go.RowKit

/-- Whether a panel's lists are names of rules. -/
def pnlB (rs : List Wr) (z1 z2 z3 : List ByteArray) : Bool := nmB rs z1 && nmB rs z2 && nmB rs z3
set_option maxRecDepth 20000 in
set_option maxHeartbeats 1000000 in
theorem l14Panel_any (ad : Option Addr) (len cap : Nat) (rs : List Wr) (a1 a2 a3 : Option Addr) (l1 c1 l2 c2 l3 c3 : Nat) (z1 z2 z3 : List ByteArray) (w : World) (hr : RowW w ad len rs) (hl : len ≤ 1048576) (hp : PnIn w a1 a2 a3 l1 l2 l3 z1 z2 z3) (h1 : l1 ≤ 1048576) (h2 : l2 ≤ 1048576) (h3 : l3 ≤ 1048576) :
    Calls Tryz.prog 22 #[.slice ad len cap, .agg #[.slice a1 l1 c1, .slice a2 l2 c2, .slice a3 l3 c3]] w fun e w' => e = .returned (.bool (pnlB rs z1 z2 z3)) ∧ Below w.heap.size w w' := by
  have HR := hide hr
  have HP := hide hp
  clear hr hp
  rcases three (nmB rs z1) (nmB rs z2) (nmB rs z3) with ⟨q1, hv⟩ | ⟨q1, q2, hv⟩ | ⟨q1, q2, q3, hv⟩ | ⟨q1, q2, q3, hv⟩
  · have HE : Hid (pnlB rs z1 z2 z3 = _) := hide hv
    clear hv
    go_enter Tryz.func22, Tryz.ntmps22
    go_wp2_with fail
    obtain ⟨V, hV⟩ : ∃ W, W = w.alloc (Obj.cells #[.slice a1 l1 c1, .slice a2 l2 c2, .slice a3 l3 c3] 29) := ⟨_, rfl⟩
    have KP : Hid (Blk V w.heap.size [.slice a1 l1 c1, .slice a2 l2 c2, .slice a3 l3 c3]) := hide (by rw [hV]; exact Blk.new _ _)
    have HB : Hid (Below w.heap.size w V) := hide (by rw [hV]; exact bel1 _)
    rw [← hV]
    clear hV
    refine (l14Names_any ad len cap rs a1 l1 c1 z1 _ ((unhide HR).below (unhide HB)) hl ((unhide HP).below (unhide HB)).r1 h1).mono ?_
    rintro e w1 ⟨rfl, b⟩
    rw [q1]
    have HB := hide ((unhide HB).trans (b.mono (unhide HB).size))
    have KP := hide ((unhide KP).below b)
    have v1 : w1.cell? ⟨w.heap.size, 1, none⟩ = some (.slice a2 l2 c2) := (unhide KP).c 1 (by simp)
    clear b
    go_wp2_with fail
    go_ret
    exact ⟨ret_bool (unhide HE).symm, unhide HB⟩
  · have HE : Hid (pnlB rs z1 z2 z3 = _) := hide hv
    clear hv
    go_enter Tryz.func22, Tryz.ntmps22
    go_wp2_with fail
    obtain ⟨V, hV⟩ : ∃ W, W = w.alloc (Obj.cells #[.slice a1 l1 c1, .slice a2 l2 c2, .slice a3 l3 c3] 29) := ⟨_, rfl⟩
    have KP : Hid (Blk V w.heap.size [.slice a1 l1 c1, .slice a2 l2 c2, .slice a3 l3 c3]) := hide (by rw [hV]; exact Blk.new _ _)
    have HB : Hid (Below w.heap.size w V) := hide (by rw [hV]; exact bel1 _)
    rw [← hV]
    clear hV
    refine (l14Names_any ad len cap rs a1 l1 c1 z1 _ ((unhide HR).below (unhide HB)) hl ((unhide HP).below (unhide HB)).r1 h1).mono ?_
    rintro e w1 ⟨rfl, b⟩
    rw [q1]
    have HB := hide ((unhide HB).trans (b.mono (unhide HB).size))
    have KP := hide ((unhide KP).below b)
    have v1 : w1.cell? ⟨w.heap.size, 1, none⟩ = some (.slice a2 l2 c2) := (unhide KP).c 1 (by simp)
    clear b
    go_wp2_with fail
    refine (l14Names_any ad len cap rs a2 l2 c2 z2 _ ((unhide HR).below (unhide HB)) hl ((unhide HP).below (unhide HB)).r2 h2).mono ?_
    rintro e w2 ⟨rfl, b⟩
    rw [q2]
    have HB := hide ((unhide HB).trans (b.mono (unhide HB).size))
    have KP := hide ((unhide KP).below b)
    have v2 : w2.cell? ⟨w.heap.size, 2, none⟩ = some (.slice a3 l3 c3) := (unhide KP).c 2 (by simp)
    clear b
    go_wp2_with fail
    go_ret
    exact ⟨ret_bool (unhide HE).symm, unhide HB⟩
  · have HE : Hid (pnlB rs z1 z2 z3 = _) := hide hv
    clear hv
    go_enter Tryz.func22, Tryz.ntmps22
    go_wp2_with fail
    obtain ⟨V, hV⟩ : ∃ W, W = w.alloc (Obj.cells #[.slice a1 l1 c1, .slice a2 l2 c2, .slice a3 l3 c3] 29) := ⟨_, rfl⟩
    have KP : Hid (Blk V w.heap.size [.slice a1 l1 c1, .slice a2 l2 c2, .slice a3 l3 c3]) := hide (by rw [hV]; exact Blk.new _ _)
    have HB : Hid (Below w.heap.size w V) := hide (by rw [hV]; exact bel1 _)
    rw [← hV]
    clear hV
    refine (l14Names_any ad len cap rs a1 l1 c1 z1 _ ((unhide HR).below (unhide HB)) hl ((unhide HP).below (unhide HB)).r1 h1).mono ?_
    rintro e w1 ⟨rfl, b⟩
    rw [q1]
    have HB := hide ((unhide HB).trans (b.mono (unhide HB).size))
    have KP := hide ((unhide KP).below b)
    have v1 : w1.cell? ⟨w.heap.size, 1, none⟩ = some (.slice a2 l2 c2) := (unhide KP).c 1 (by simp)
    clear b
    go_wp2_with fail
    refine (l14Names_any ad len cap rs a2 l2 c2 z2 _ ((unhide HR).below (unhide HB)) hl ((unhide HP).below (unhide HB)).r2 h2).mono ?_
    rintro e w2 ⟨rfl, b⟩
    rw [q2]
    have HB := hide ((unhide HB).trans (b.mono (unhide HB).size))
    have KP := hide ((unhide KP).below b)
    have v2 : w2.cell? ⟨w.heap.size, 2, none⟩ = some (.slice a3 l3 c3) := (unhide KP).c 2 (by simp)
    clear b
    go_wp2_with fail
    refine (l14Names_any ad len cap rs a3 l3 c3 z3 _ ((unhide HR).below (unhide HB)) hl ((unhide HP).below (unhide HB)).r3 h3).mono ?_
    rintro e w3 ⟨rfl, b⟩
    rw [q3]
    have HB := hide ((unhide HB).trans (b.mono (unhide HB).size))
    clear b
    go_wp2_with fail
    go_ret
    exact ⟨ret_bool (unhide HE).symm, unhide HB⟩
  · have HE : Hid (pnlB rs z1 z2 z3 = _) := hide hv
    clear hv
    go_enter Tryz.func22, Tryz.ntmps22
    go_wp2_with fail
    obtain ⟨V, hV⟩ : ∃ W, W = w.alloc (Obj.cells #[.slice a1 l1 c1, .slice a2 l2 c2, .slice a3 l3 c3] 29) := ⟨_, rfl⟩
    have KP : Hid (Blk V w.heap.size [.slice a1 l1 c1, .slice a2 l2 c2, .slice a3 l3 c3]) := hide (by rw [hV]; exact Blk.new _ _)
    have HB : Hid (Below w.heap.size w V) := hide (by rw [hV]; exact bel1 _)
    rw [← hV]
    clear hV
    refine (l14Names_any ad len cap rs a1 l1 c1 z1 _ ((unhide HR).below (unhide HB)) hl ((unhide HP).below (unhide HB)).r1 h1).mono ?_
    rintro e w1 ⟨rfl, b⟩
    rw [q1]
    have HB := hide ((unhide HB).trans (b.mono (unhide HB).size))
    have KP := hide ((unhide KP).below b)
    have v1 : w1.cell? ⟨w.heap.size, 1, none⟩ = some (.slice a2 l2 c2) := (unhide KP).c 1 (by simp)
    clear b
    go_wp2_with fail
    refine (l14Names_any ad len cap rs a2 l2 c2 z2 _ ((unhide HR).below (unhide HB)) hl ((unhide HP).below (unhide HB)).r2 h2).mono ?_
    rintro e w2 ⟨rfl, b⟩
    rw [q2]
    have HB := hide ((unhide HB).trans (b.mono (unhide HB).size))
    have KP := hide ((unhide KP).below b)
    have v2 : w2.cell? ⟨w.heap.size, 2, none⟩ = some (.slice a3 l3 c3) := (unhide KP).c 2 (by simp)
    clear b
    go_wp2_with fail
    refine (l14Names_any ad len cap rs a3 l3 c3 z3 _ ((unhide HR).below (unhide HB)) hl ((unhide HP).below (unhide HB)).r3 h3).mono ?_
    rintro e w3 ⟨rfl, b⟩
    rw [q3]
    have HB := hide ((unhide HB).trans (b.mono (unhide HB).size))
    clear b
    go_wp2_with fail
    go_ret
    exact ⟨ret_bool (unhide HE).symm, unhide HB⟩

end Go.Proofs.YtbaocifpifbldawGreat

namespace Go.Proofs.YtbaocifpifbldawGreat
open Go

/-- Of the first k taken ones those that are active. -/
def tkK (act tk : List ByteArray) : Nat → List ByteArray
  | 0 => []
  | k + 1 => if hasB act (elAt tk k) = true then tkK act tk k ++ [elAt tk k] else tkK act tk k
/-- Whether a rule is told, at a rank. -/
def tdB (rs : List Wr) (act lat tkn : List ByteArray) (ph rank : Int) (k : Nat) : Bool :=
  decide ((elAt rs k).r = rank) && (hasB act (elAt rs k).n || hasB lat (elAt rs k).n) && !hasB tkn (elAt rs k).n && !qtB (elAt rs k).q ph && (sEq (elAt rs k).d ⟨#[]⟩ || !hasB act (elAt rs k).d)
def tdIn (rs : List Wr) (act lat tkn : List ByteArray) (ph rank : Int) (acc : List ByteArray) : Nat → List ByteArray
  | 0 => acc
  | k + 1 => if tdB rs act lat tkn ph rank k = true then tdIn rs act lat tkn ph rank acc k ++ [(elAt rs k).n] else tdIn rs act lat tkn ph rank acc k
/-- Behind the ranks 3 .. 4 - m. -/
def tdR (rs : List Wr) (act lat tkn : List ByteArray) (ph : Int) : Nat → List ByteArray
  | 0 => []
  | m + 1 => tdIn rs act lat tkn ph (3 - (m : Int)) (tdR rs act lat tkn ph m) rs.length
/-- What is latched then. -/
def ltK (rs : List Wr) (act lat told : List ByteArray) : Nat → List ByteArray
  | 0 => []
  | k + 1 => if (hasB lat (elAt rs k).n || ((elAt rs k).l && hasB act (elAt rs k).n && hasB told (elAt rs k).n)) = true then ltK rs act lat told k ++ [(elAt rs k).n] else ltK rs act lat told k
theorem tkK_len (act tk : List ByteArray) : ∀ k, (tkK act tk k).length ≤ k
  | 0 => Nat.le_refl _
  | k + 1 => by
    have := tkK_len act tk k
    unfold tkK
    split
    · simp; omega
    · omega
theorem ltK_len (rs : List Wr) (act lat told : List ByteArray) : ∀ k, (ltK rs act lat told k).length ≤ k
  | 0 => Nat.le_refl _
  | k + 1 => by
    have := ltK_len rs act lat told k
    unfold ltK
    split
    · simp; omega
    · omega
theorem tdIn_len (rs : List Wr) (act lat tkn : List ByteArray) (ph rank : Int) (acc : List ByteArray) : ∀ k, (tdIn rs act lat tkn ph rank acc k).length ≤ acc.length + k
  | 0 => Nat.le_refl _
  | k + 1 => by
    have := tdIn_len rs act lat tkn ph rank acc k
    unfold tdIn
    split
    · simp; omega
    · omega
theorem tdR_len (rs : List Wr) (act lat tkn : List ByteArray) (ph : Int) : ∀ m, (tdR rs act lat tkn ph m).length ≤ m * rs.length
  | 0 => by simp [tdR]
  | m + 1 => by
    have := tdR_len rs act lat tkn ph m
    have k := tdIn_len rs act lat tkn ph (3 - (m : Int)) (tdR rs act lat tkn ph m) rs.length
    show (tdIn rs act lat tkn ph (3 - (m : Int)) (tdR rs act lat tkn ph m) rs.length).length ≤ _
    rw [Nat.add_mul]
    omega
def upB (rs : List Wr) (z1 z2 z3 act : List ByteArray) (ph : Int) : Bool := wrB rs && pnlB rs z1 z2 z3 && nmB rs act && inB ph 0 9

end Go.Proofs.YtbaocifpifbldawGreat
