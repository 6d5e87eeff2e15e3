/-
  What the program's small functions of chapter 14 answer: texts that rise, the names of rules, whether a rule by itself is so, whether it is quiet in a phase. Nothing that was there is written.
  Rules in a book: the value of a rule, the book's content by name; whether what the rules need is so, over the book. Nothing that was there is written.
  What the program's bookOf answers: the book of the rules by name, and whether they are so. Nothing that was there is written.
-/
import Derived.Test.YtjalfalgffphmawNames1
import Derived.Test.YtjalfalgffphmawWrInh
import Derived.Test.YtjalfalgffphmawStrTo
import Derived.Test.YtjalfalgffphmawMapS

namespace Go.Proofs.Ytjalfalgffphmaw
open Go.RowKit

set_option maxHeartbeats 1000000 in
theorem ascS_any (ad : Option Addr) (len cap : Nat) (ts : List ByteArray) (w : World) (hr : RowE 1 stC w ad len ts) :
    Calls Try.prog 53 #[.slice ad len cap] w fun e w' => e = .returned (.bool (riseS ts)) ∧ ∃ n, w' = w.drewN n := by
  have hz := hr.len_eq
  have hs := hr.small
  have hopen := hr.open1
  clear hr
  subst hz
  go_enter Try.func53, Try.ntmps53
  go_wp2
  go_loopw [3] (fun i wr => ∃ k n : Nat, i = .int .i64 ((k : Int) + 1) ∧ k ≤ ts.length ∧ Hid (∀ j, j < k → j + 1 < ts.length → sLt (elAt ts j) (elAt ts (j + 1)) = true) ∧ wr = w.drewN n) (fun i _ => ts.length + 1 - (intOf i).toNat)
  case atStart => exact ⟨0, 0, rfl, by omega, hide (fun j hj => by omega), rfl⟩
  case round =>
    obtain ⟨k, n, rfl, hk, hall, rfl⟩ := hrel
    by_cases hlt : k + 1 < ts.length
    · rcases hopen with ⟨h0, _⟩ | ⟨bb, off, rfl, _, hc⟩
      · omega
      have hc1 : w.cell? ⟨bb, off + k, none⟩ = some (.string (elAt ts k)) := hc k (by omega)
      have hc2 : w.cell? ⟨bb, off + (k + 1), none⟩ = some (.string (elAt ts (k + 1))) := hc (k + 1) hlt
      have hi1 : (0 : Int) ≤ (k : Int) := by omega
      have hi2 : (k : Int) < (ts.length : Int) := by omega
      have hi3 : (k : Int) + 1 < (ts.length : Int) := by omega
      have hi4 : ((k : Int) + 1).toNat = k + 1 := by omega
      have HD : Hid (sLt (elAt ts k) (elAt ts (k + 1)) = Op.bytesLess (elAt ts k).toList (elAt ts (k + 1)).toList) := hide rfl
      obtain ⟨x, hx⟩ : ∃ x, elAt ts k = x := ⟨_, rfl⟩
      obtain ⟨y, hy⟩ : ∃ y, elAt ts (k + 1) = y := ⟨_, rfl⟩
      rw [hx] at hc1
      rw [hy] at hc2
      rw [hx, hy] at HD
      have HX := hide hx
      have HY := hide hy
      clear hc hx hy
      have HOR : Hid ((Op.bytesLess y.toList x.toList || y.toList == x.toList) = !Op.bytesLess x.toList y.toList) := hide (sLt_or x y)
      cases hin : Op.bytesLess x.toList y.toList with
      | true =>
        rw [hin] at HD HOR
        have q1 : Op.bytesLess y.toList x.toList = false := by have := unhide HOR; simp at this; exact this.1
        have q2 : (y.toList == x.toList) = false := by have := unhide HOR; simp at this; simpa using this.2
        go_wp2
        go_quiet (fail)
        go_wp2
        go_roundw
        case rel => exact ⟨k + 1, _, by go_num, by omega, hide (fun j hj h2 => by rcases Nat.lt_succ_iff_lt_or_eq.1 hj with h | h; exact unhide hall j h h2; subst h; rw [unhide HX, unhide HY]; exact unhide HD), rfl⟩
        case measure => simp [intOf]; omega
      | false =>
        rw [hin] at HD HOR
        have q1 : (Op.bytesLess y.toList x.toList || y.toList == x.toList) = true := unhide HOR
        rcases Bool.or_eq_true_iff.1 q1 with q2 | q2
        all_goals
          clear q1
          go_wp2
          go_quiet (fail)
          go_wp2
          go_ret
          exact ⟨ret_bool (riseS_false hlt (by rw [unhide HX, unhide HY]; exact unhide HD)).symm, dn2 _ _ _⟩
    · have hi3 : ¬ (k : Int) + 1 < (ts.length : Int) := by omega
      go_wp2
      go_ret
      exact ⟨ret_bool (riseS_true fun j hj => unhide hall j (by omega) hj).symm, n, rfl⟩
set_option maxRecDepth 20000 in
set_option maxHeartbeats 1000000 in
theorem namesOf_any (ad : Option Addr) (len cap : Nat) (rs : List Wr) (w : World) (hr : RowW w ad len rs) (hl : len ≤ 30) :
    Calls Try.prog 54 #[.slice ad len cap] w fun e w' => ∃ g c1, e = .returned (.slice (some ⟨g, 0, none⟩) (wrN rs).length c1) ∧ OwnE 1 stC w' w.heap.size 9 (.slice (some ⟨g, 0, none⟩) (wrN rs).length c1) (wrN rs) ∧ Below w.heap.size w w' := by
  have hz := hr.len_eq
  have HO := hide hr.open_
  have KJ : Hid (StW w (w.alloc (Obj.cells #[] 9)) w.heap.size 0 0 []) := hide ⟨stE_none (Nat.le_refl _), rfl, bel1 _⟩
  clear hr
  subst hz
  go_enter Try.func54, Try.ntmps54
  go_wp2_with fail
  go_loopw [3, 9] (fun s3 s9 wr => ∃ (i g n cp : Nat), i ≤ rs.length ∧ n ≤ i ∧ s3 = .slice (some ⟨g, 0, none⟩) n cp ∧ s9 = .int .i64 (i : Int) ∧ Hid (StW w wr g n cp (wrN (rs.take i)))) (fun _ s9 _ => rs.length - (intOf s9).toNat)
  case atStart => exact ⟨0, _, 0, 0, Nat.zero_le _, Nat.le_refl _, rfl, rfl, KJ⟩
  case round =>
    obtain ⟨i, g, n, cp, hi, hni, rfl, rfl, HK⟩ := hrel
    clear KJ
    by_cases hlt : i < rs.length
    · rcases (unhide HO) with ⟨h0, _⟩ | ⟨bb, off, rfl, _, hc⟩
      · omega
      obtain ⟨qa, ql, qc, hat, _, _, _⟩ := hc i hlt
      have hat := hat.below (unhide HK).bel
      have m0 := hat.c0
      have m1 := hat.c1
      have m2 := hat.c2
      have m3 := hat.c3
      have m4 := hat.c4
      have k0 : (0 : Int) ≤ (i : Int) := by omega
      have k1 : (i : Int) < (rs.length : Int) := by omega
      have HS : Hid (wrN (rs.take (i + 1)) = wrN (rs.take i) ++ [(elAt rs i).n]) := hide (wrN_take hlt)
      obtain ⟨p, hp⟩ : ∃ p, elAt rs i = p := ⟨_, rfl⟩
      rw [hp] at m0 m1 m3 m4
      rw [hp] at HS
      have K2 := hide ((unhide HK).below (bel1 (Obj.cells #[.string p.n, .int .i64 p.r, .slice qa ql qc, .bool p.l, .string p.d] 56)))
      clear hc hat hp
      go_wp2_with (at_builtin; (refine wpList_app_elG (K := 1) (cells := stC) rfl _ _ 23 9 rfl Try.underlying23 info_txt rfl (by decide) (by decide) p.n [.string p.n] rfl (fun q hq => by match q, hq with | 0, _ => rfl) (fun u hu => by simp at hu; rcases hu with rfl; rfl) (unhide K2).o (unhide K2).l rfl (by simp) rfl (unhide K2).bel.size (by omega) ?_; intro g' c' w9 o9 gr9 _; have K9 := hide ((unhide K2).app o9 gr9); clear o9 gr9))
      go_roundw
      case rel => exact ⟨i + 1, _, _, _, by omega, by omega, rfl, by go_num, by rw [unhide HS]; exact K9⟩
      case measure => simp [intOf]; omega
    · have k1 : ¬ (i : Int) < (rs.length : Int) := by omega
      have hie : i = rs.length := by omega
      have HI : Hid (rs.take i = rs) := hide (by rw [hie]; simp)
      clear hie
      go_wp2_with fail
      go_ret
      have ko := (unhide HK).o
      have kl := (unhide HK).l
      have kb := (unhide HK).bel
      rw [unhide HI] at ko kl
      rw [kl]
      exact ⟨_, _, rfl, ko, kb⟩
set_option maxRecDepth 20000 in
set_option maxHeartbeats 1000000 in
theorem isSo_any (qa : Option Addr) (ql qc : Nat) (p : Wr) (w : World) (hf : wrFit p) (hr : Row w qa ql p.q) :
    Calls Try.prog 55 #[.agg #[.string p.n, .int .i64 p.r, .slice qa ql qc, .bool p.l, .string p.d]] w fun e w' => e = .returned (.bool (wrSo p)) ∧ Below w.heap.size w w' := by
  have HF := hide hf.1
  have HR := hide (hr.alloc (Obj.cells #[.string p.n, .int .i64 p.r, .slice qa ql qc, .bool p.l, .string p.d] 56))
  clear hr hf
  have HV : Hid (wrSo p = (nameB p.n && inB p.r 1 3 && riseB p.q && allB p.q 0 9)) := hide rfl
  obtain ⟨x, r, q, l, d⟩ := p
  simp only at HF HR HV ⊢
  rcases four (nameB x) (inB r 1 3) (riseB q) (allB q 0 9) with ⟨e1, hv⟩ | ⟨e1, e2, hv⟩ | ⟨e1, e2, e3, hv⟩ | ⟨e1, e2, e3, e4, hv⟩ | ⟨e1, e2, e3, e4, hv⟩
  all_goals
    rw [hv] at HV
    clear hv
    go_enter Try.func55, Try.ntmps55
    go_wp2_with (first
      | (go_at_call 64; refine (nameOk_any _ _ (unhide HF)).mono ?_; rintro e w' ⟨rfl, hw⟩; subst w'; rw [e1])
      | (go_at_call 62; refine (within_is _ _ _ _ e2).mono ?_; rintro e w' ⟨rfl, hw⟩; subst w')
      | (go_at_call 65; refine (ascending_any _ _ _ q _ (unhide HR)).mono ?_; rintro e w' ⟨rfl, n1, hw⟩; subst w'; rw [e3])
      | (go_at_call 66; refine (allWithin_any _ _ _ q _ _ _ ((unhide HR).drewN _)).mono ?_; rintro e w' ⟨rfl, n2, hw⟩; subst w'; rw [e4]))
    go_ret
    refine ⟨ret_bool (unhide HV).symm, ?_⟩
    first
      | exact bel1 _
      | exact (bel1 _).trans (bel0d' _)
      | exact ((bel1 _).trans (bel0d' _)).trans (bel0d' _)
/-- The place of a phase among phases, or -1. -/
theorem indexI_any (ad : Option Addr) (len cap : Nat) (zs : List Int) (ph : Int) (w : World) (hr : Row w ad len zs) :
    Calls Try.prog 69 #[.slice ad len cap, .int .i64 ph] w fun e w' => (∃ r : Int, e = .returned (.int .i64 r) ∧ decide (0 ≤ r) = qtB zs ph) ∧ w' = w := by
  have hz := hr.len_eq
  have hs := hr.small
  have HO := hide hr.open_
  clear hr
  subst hz
  go_enter Try.func69, Try.ntmps69
  go_wp2_with fail
  go_loopw [8] (fun s8 wr => ∃ i : Nat, i ≤ zs.length ∧ s8 = .int .i64 (i : Int) ∧ Hid (∀ j, j < i → ¬ nth zs j = ph) ∧ wr = w) (fun s8 _ => zs.length - (intOf s8).toNat)
  case atStart => exact ⟨0, Nat.zero_le _, rfl, hide (fun j hj => by omega), rfl⟩
  case round =>
    obtain ⟨i, hi, rfl, HN, hwr⟩ := hrel
    subst wr
    by_cases hlt : i < zs.length
    · rcases (unhide HO) with ⟨h0, _⟩ | ⟨bb, off, rfl, _, hc⟩
      · omega
      have m0 := hc i hlt
      have k0 : (0 : Int) ≤ (i : Int) := by omega
      have k1 : (i : Int) < (zs.length : Int) := by omega
      obtain ⟨x, hx⟩ : ∃ x, nth zs i = x := ⟨_, rfl⟩
      rw [hx] at m0
      have HX := hide hx
      clear hx hc
      by_cases g : ph = x
      · have HE := hide (qtB_yes (ph := ph) hlt ((unhide HX).trans g.symm))
        have g2 : (ph == x) = true := by simp [g]
        clear g
        go_wp2_with fail
        go_ret
        exact ⟨⟨_, rfl, by rw [unhide HE]; simp⟩, rfl⟩
      · have HG := hide g
        have g2 : (ph == x) = false := by simp [g]
        clear g
        go_wp2_with fail
        go_roundw
        case rel => exact ⟨i + 1, by omega, by go_num, hide (fun j hj => by rcases Nat.lt_succ_iff_lt_or_eq.1 hj with h | h; exact unhide HN j h; subst h; rw [unhide HX]; exact fun e => unhide HG e.symm), by first | rfl | trivial⟩
        case measure => simp [intOf]; omega
    · have k1 : ¬ (i : Int) < (zs.length : Int) := by omega
      have HE := hide (qtB_no (q := zs) (ph := ph) (fun j hj => unhide HN j (by omega)))
      go_wp2_with fail
      go_ret
      exact ⟨⟨_, rfl, by rw [unhide HE]; simp⟩, rfl⟩
set_option maxHeartbeats 1000000 in
theorem containsI_any (ad : Option Addr) (len cap : Nat) (zs : List Int) (ph : Int) (w : World) (hr : Row w ad len zs) :
    Calls Try.prog 63 #[.slice ad len cap, .int .i64 ph] w fun e w' => e = .returned (.bool (qtB zs ph)) ∧ w' = w := by
  have HR := hide hr
  clear hr
  go_enter Try.func63, Try.ntmps63
  go_wp2_with (go_at_call 69; refine (indexI_any _ _ _ zs _ _ (unhide HR)).mono ?_; rintro e w' ⟨⟨r, rfl, hq⟩, hw⟩; subst w'; have HQ := hide hq; clear hq)
  go_ret
  exact ⟨ret_bool (unhide HQ), rfl⟩
set_option maxHeartbeats 1000000 in
theorem quietIn_any (qa : Option Addr) (ql qc : Nat) (p : Wr) (ph : Int) (w : World) (hr : Row w qa ql p.q) :
    Calls Try.prog 44 #[.agg #[.string p.n, .int .i64 p.r, .slice qa ql qc, .bool p.l, .string p.d], .int .i64 ph] w fun e w' => e = .returned (.bool (qtB p.q ph)) ∧ Below w.heap.size w w' := by
  have HR := hide (hr.alloc (Obj.cells #[.string p.n, .int .i64 p.r, .slice qa ql qc, .bool p.l, .string p.d] 56))
  clear hr
  go_enter Try.func44, Try.ntmps44
  go_wp2_with (go_at_call 63; refine (containsI_any _ _ _ p.q _ _ (unhide HR)).mono ?_; rintro e w' ⟨rfl, hw⟩; subst w')
  go_ret
  exact ⟨rfl, bel1 _⟩

end Go.Proofs.Ytjalfalgffphmaw

namespace Go.Proofs.Ytjalfalgffphmaw
open Go.RowKit Go.Maps Go.WideMaps

/-- A rule as a value: where its quiet phases lie is told beside it. -/
def wrV (p : Wr) (q : Option Addr × Nat × Nat) : Value := .agg #[.string p.n, .int .i64 p.r, .slice q.1 q.2.1 q.2.2, .bool p.l, .string p.d]
/-- A slice of rules, with the places of their quiet phases. -/
structure RowV (w : World) (a : Option Addr) (len : Nat) (rs : List Wr) (qs : Nat → Option Addr × Nat × Nat) : Prop where
  len_eq : rs.length = len
  small : len ≤ 9223372036854775807
  cells : ∀ i, i < len → ∃ b off, a = some ⟨b, off, none⟩ ∧ WrAt w b (off + i * 5) (qs i).1 (qs i).2.1 (qs i).2.2 (elAt rs i)
  rows : ∀ i, i < len → Row w (qs i).1 (qs i).2.1 (elAt rs i).q
  caps : ∀ i, i < len → (qs i).2.1 ≤ (qs i).2.2
  fit : ∀ i, i < len → wrFit (elAt rs i)
theorem RowV.row {w : World} {a : Option Addr} {len : Nat} {rs : List Wr} {qs : Nat → Option Addr × Nat × Nat} (h : RowV w a len rs qs) : RowW w a len rs := by
  refine ⟨h.len_eq, h.small, fun i hi => ?_⟩
  obtain ⟨b, off, ha, hc⟩ := h.cells i hi
  exact ⟨b, off, _, _, _, ha, hc, h.rows i hi, h.caps i hi, h.fit i hi⟩
theorem RowV.below {w w' : World} {a : Option Addr} {len : Nat} {rs : List Wr} {qs : Nat → Option Addr × Nat × Nat} (h : RowV w a len rs qs) (k : Below w.heap.size w w') : RowV w' a len rs qs := by
  refine ⟨h.len_eq, h.small, fun i hi => ?_, fun i hi => (h.rows i hi).below k, h.caps, h.fit⟩
  obtain ⟨b, off, ha, hc⟩ := h.cells i hi
  exact ⟨b, off, ha, hc.below k⟩
theorem RowW.v {w : World} {a : Option Addr} {len : Nat} {rs : List Wr} (h : RowW w a len rs) : ∃ qs, RowV w a len rs qs := by
  have : ∀ i, ∃ q : Option Addr × Nat × Nat, i < len → (∃ b off, a = some ⟨b, off, none⟩ ∧ WrAt w b (off + i * 5) q.1 q.2.1 q.2.2 (elAt rs i)) ∧ Row w q.1 q.2.1 (elAt rs i).q ∧ q.2.1 ≤ q.2.2 ∧ wrFit (elAt rs i) := by
    intro i
    by_cases hi : i < len
    · obtain ⟨b, off, qa, ql, qc, ha, hc, hr, hl, hf⟩ := h.cells i hi
      exact ⟨(qa, ql, qc), fun _ => ⟨⟨b, off, ha, hc⟩, hr, hl, hf⟩⟩
    · exact ⟨(none, 0, 0), fun k => absurd k hi⟩
  obtain ⟨qs, hq⟩ := Classical.axiomOfChoice this
  exact ⟨qs, h.len_eq, h.small, fun i hi => (hq i hi).1, fun i hi => (hq i hi).2.1, fun i hi => (hq i hi).2.2.1, fun i hi => (hq i hi).2.2.2⟩
theorem RowV.open_ {w : World} {a : Option Addr} {len : Nat} {rs : List Wr} {qs : Nat → Option Addr × Nat × Nat} (h : RowV w a len rs qs) :
    (len = 0 ∧ rs = []) ∨ ∃ b off, a = some ⟨b, off, none⟩ ∧ 0 < len ∧ ∀ i, i < len → WrAt w b (off + i * 5) (qs i).1 (qs i).2.1 (qs i).2.2 (elAt rs i) := by
  by_cases h0 : len = 0
  · exact .inl ⟨h0, List.length_eq_zero_iff.1 (by rw [h.len_eq, h0])⟩
  · obtain ⟨b, off, ha, _⟩ := h.cells 0 (by omega)
    refine .inr ⟨b, off, ha, by omega, fun i hi => ?_⟩
    obtain ⟨b', off', ha', hc⟩ := h.cells i hi
    rw [ha] at ha'
    simp only [Option.some.injEq, Addr.mk.injEq] at ha'
    obtain ⟨rfl, rfl, _⟩ := ha'
    exact hc
/-- The book of the first k rules. -/
def bkF (rs : List Wr) (qs : Nat → Option Addr × Nat × Nat) : Nat → ByteArray → Option Value
  | 0 => fun _ => none
  | k + 1 => putF (bkF rs qs k) (elAt rs k).n (wrV (elAt rs k) (qs k))
/-- The whole book. -/
def bkA (rs : List Wr) (qs : Nat → Option Addr × Nat × Nat) (s : ByteArray) : Option Value := if wfK rs s < rs.length then some (wrV (elAt rs (wfK rs s)) (qs (wfK rs s))) else none
theorem bkF_at {rs : List Wr} (h : riseS (wrN rs) = true) (qs : Nat → Option Addr × Nat × Nat) (s : ByteArray) : ∀ k, k ≤ rs.length → bkF rs qs k s = if wfK rs s < k then some (wrV (elAt rs (wfK rs s)) (qs (wfK rs s))) else none
  | 0, _ => by simp [bkF]
  | k + 1, hk => by
    have ih := bkF_at h qs s k (by omega)
    show putF _ _ _ s = _
    unfold putF
    by_cases e : s = (elAt rs k).n
    · have e2 := wfK_at h (i := k) (by omega)
      rw [if_pos e, e, e2, if_pos (by omega)]
    · rw [if_neg e, ih]
      have : ¬ wfK rs s = k := fun c => e (by rw [← c]; exact (wfK_nm (by omega)).symm)
      by_cases c : wfK rs s < k
      · rw [if_pos c, if_pos (by omega)]
      · rw [if_neg c, if_neg (by omega)]
theorem bkF_all {rs : List Wr} (h : riseS (wrN rs) = true) (qs : Nat → Option Addr × Nat × Nat) : bkF rs qs rs.length = bkA rs qs := by
  funext s
  exact bkF_at h qs s _ (Nat.le_refl _)
theorem bkA_some {rs : List Wr} {qs : Nat → Option Addr × Nat × Nat} {s : ByteArray} {v : Value} (h : bkA rs qs s = some v) : ∃ i, i < rs.length ∧ (elAt rs i).n = s ∧ v = wrV (elAt rs i) (qs i) := by
  unfold bkA at h
  by_cases c : wfK rs s < rs.length
  · rw [if_pos c] at h
    exact ⟨_, c, wfK_nm c, (Option.some.inj h).symm⟩
  · rw [if_neg c] at h; cases h
theorem bkA_is (rs : List Wr) (qs : Nat → Option Addr × Nat × Nat) (s : ByteArray) : (bkA rs qs s).isSome = decide (wfK rs s < rs.length) := by
  unfold bkA
  by_cases c : wfK rs s < rs.length
  · rw [if_pos c, decide_eq_true c]; rfl
  · rw [if_neg c, decide_eq_false c]; rfl
/-- What a book holds are rules. -/
def Rls (F : ByteArray → Option Value) : Prop := ∀ s v, F s = some v → ∃ p q, v = wrV p q
theorem bkF_rls (rs : List Wr) (qs : Nat → Option Addr × Nat × Nat) : ∀ k, Rls (bkF rs qs k)
  | 0 => fun s v h => by cases h
  | k + 1 => fun s v h => by
    change putF _ _ _ s = _ at h
    unfold putF at h
    by_cases e : s = (elAt rs k).n
    · rw [if_pos e] at h; exact ⟨_, _, (Option.some.inj h).symm⟩
    · rw [if_neg e] at h; exact bkF_rls rs qs k s v h
theorem bkA_rls (rs : List Wr) (qs : Nat → Option Addr × Nat × Nat) : Rls (bkA rs qs) := fun s v h => by
  obtain ⟨i, _, _, e⟩ := bkA_some h
  exact ⟨_, _, e⟩
/-- Whether all that rules need is so. -/
def ndA (rs : List Wr) : Bool := decide (∀ i, i < rs.length → ndB rs i = true)
theorem ndA_no {rs : List Wr} {i : Nat} (hi : i < rs.length) (h : ndB rs i = false) : ndA rs = false := decide_eq_false (fun k => by have := k i hi; rw [h] at this; cases this)
theorem ndA_yes {rs : List Wr} (h : ∀ i, i < rs.length → ndB rs i = true) : ndA rs = true := decide_eq_true h
theorem empty_toList : (⟨#[]⟩ : ByteArray).toList = [] := by simp

set_option maxRecDepth 20000 in
set_option maxHeartbeats 2000000 in
theorem needs_any (b n : Nat) (rs : List Wr) (qs : Nat → Option Addr × Nat × Nat) (w : World) (hm : MapIs w b n (bkA rs qs)) (hf : ∀ i, i < rs.length → wrFit (elAt rs i)) (hri : riseS (wrN rs) = true) :
    Calls Try.prog 56 #[.map (some b)] w fun e w' => e = .returned (.bool (ndA rs)) ∧ Below w.heap.size w w' := by
  have HM := hide hm
  have HF := hide hf
  have HRI := hide hri
  have hbl := hm.lt
  clear hm hf hri
  go_enter Try.func56, Try.ntmps56
  go_wp2_with (first
    | (at_range; refine wpList_range_is rfl _ 59 rfl Try.underlying59 rfl (unhide HM) ?_; intro w1 cnt hrg1 _ hg1 hs1)
    | go_in)
  go_frame
  have HRG1 := hide hrg1
  have B1 := hide ((Below.refl w.heap.size w).grown hg1 (Nat.le_refl _) (fun j hj => by cases hj))
  clear hrg1 hg1 hs1
  go_loopw [] (fun wr => ∃ (L : ByteArray → Bool) (cnt : Nat), Hid (RangeIs wr b w.heap.size n (bkA rs qs) L cnt) ∧ Hid (∀ i, i < rs.length → L (elAt rs i).n = false → ndB rs i = true) ∧ Hid (Below w.heap.size w wr)) (fun wr => wr.rangeLeft b w.heap.size)
  case atStart =>
    refine ⟨_, _, HRG1, hide (fun i hi hl => ?_), B1⟩
    rw [bkA_is, wfK_at (unhide HRI) hi, decide_eq_true hi] at hl
    cases hl
  case round =>
    obtain ⟨L, cnt, HRG, HOK, HB⟩ := hrel
    clear HRG1 B1
    go_wp2_with (first
      | (at_next; refine wpList_next_is rfl _ rfl rfl (unhide HRG) ?_ ?_)
      | go_in)
    · intro hl
      have HE := hide (ndA_yes (rs := rs) (fun i hi => unhide HOK i hi (hl _)))
      clear hl
      go_wp2_with fail
      go_ret
      exact ⟨ret_bool (unhide HE).symm, unhide HB⟩
    · intro s v w4 cnt4 hss hL hF hrg4 hlt4 hg4 hs4 hen
      obtain ⟨i, hi, hn, rfl⟩ := bkA_some hF
      have hf := unhide HF i hi
      have hB4 := (unhide HB).grown hg4 (unhide HB).size (fun q hq => by cases hq; exact Nat.le_refl _)
      have HS : Hid (ndB rs i = (sEq (elAt rs i).d ⟨#[]⟩ || (decide (wfK rs (elAt rs i).d < rs.length) && sEq (elAt rs (wfK rs (elAt rs i).d)).d ⟨#[]⟩))) := hide rfl
      have HLT := hide hi
      have HNX : Hid (∀ k, ndB rs i = true → k < rs.length → (L (elAt rs k).n && !decide ((elAt rs k).n = s)) = false → ndB rs k = true) := hide (fun k hy hk hl => by
        rcases Bool.and_eq_false_iff.1 hl with h | h
        · exact unhide HOK k hk h
        · have h : (elAt rs k).n = s := by simpa using h
          have e : elAt (wrN rs) k = elAt (wrN rs) i := by rw [wrN_at hk, wrN_at hi, h, hn]
          have := riseS_ne (unhide HRI) (by rw [wrN_len]; exact hk) (by rw [wrN_len]; exact hi) e
          subst this; exact hy)
      obtain ⟨⟨x, r, q, l, d⟩, hp⟩ : ∃ p, elAt rs i = p := ⟨_, rfl⟩
      obtain ⟨⟨qa, ql, qc⟩, hq⟩ : ∃ q, qs i = q := ⟨_, rfl⟩
      rw [hp] at HS hf
      have hfd := hf.2
      rw [hp, hq] at hen ⊢
      unfold wrV at hen ⊢
      simp only at hen hfd HS ⊢
      obtain ⟨V1, hV1⟩ : ∃ V, V = w4.alloc (Obj.cells #[.string x, .int .i64 r, .slice qa ql qc, .bool l, .string d] 56) := ⟨_, rfl⟩
      have hrgV : RangeIs V1 b w.heap.size n (bkA rs qs) (fun t => L t && !decide (t = s)) cnt4 := by rw [hV1]; exact hrg4.below (bel1 _)
      have hBV : Below w.heap.size w V1 := by rw [hV1]; exact hB4.trans ((bel1 _).mono hB4.size)
      have HV1 := hide hV1
      cases g : (d.toList == []) with
      | true =>
        have HA : Hid (ndB rs i = true) := hide (by rw [unhide HS]; unfold sEq; simp only [empty_toList]; rw [g]; rfl)
        have HRV := hide hrgV
        have HBV := hide hBV
        clear hp hq hf hn hF hrg4 hg4 hs4 hV1 hrgV hBV hB4
        go_wp2_with fail
        rw [← unhide HV1]
        go_roundw
        case rel => exact ⟨_, cnt4, HRV, hide (fun k hk hl => unhide HNX k (unhide HA) hk hl), HBV⟩
        case measure => rw [(unhide HRV).left_eq, (unhide HRG).left_eq]; exact hlt4
      | false =>
        have HS2 : Hid (ndB rs i = (decide (wfK rs d < rs.length) && sEq (elAt rs (wfK rs d)).d ⟨#[]⟩)) := hide (by
          have : sEq d ⟨#[]⟩ = false := by unfold sEq; rw [empty_toList]; exact g
          rw [unhide HS, this, Bool.false_or])
        have hlook := hrgV.map.look Try.underlying59 (Try.zeroValue56 V1) hfd
        have HBD : Hid (bkA rs qs d = if wfK rs d < rs.length then some (wrV (elAt rs (wfK rs d)) (qs (wfK rs d))) else none) := hide rfl
        by_cases hk : wfK rs d < rs.length
        · rw [if_pos hk] at HBD
          obtain ⟨⟨x2, r2, q2, l2, d2⟩, hp2⟩ : ∃ p, elAt rs (wfK rs d) = p := ⟨_, rfl⟩
          obtain ⟨⟨qa2, ql2, qc2⟩, hq2⟩ : ∃ q, qs (wfK rs d) = q := ⟨_, rfl⟩
          rw [hp2, hq2] at HBD
          rw [hp2] at HS2
          rw [unhide HBD] at hlook
          unfold wrV at hlook
          simp only [Option.getD_some, Option.isSome_some] at hlook
          rw [hV1] at hlook
          obtain ⟨V2, hV2⟩ : ∃ V, V = V1.alloc (Obj.cells #[.string x2, .int .i64 r2, .slice qa2 ql2 qc2, .bool l2, .string d2] 56) := ⟨_, rfl⟩
          have HRV : Hid (RangeIs V2 b w.heap.size n (bkA rs qs) (fun t => L t && !decide (t = s)) cnt4) := hide (by rw [hV2]; exact hrgV.below (bel1 _))
          have HBV : Hid (Below w.heap.size w V2) := hide (by rw [hV2]; exact hBV.trans ((bel1 _).mono hBV.size))
          have HV2 := hide hV2
          cases g3 : (d2.toList == []) with
          | true =>
            have HA : Hid (ndB rs i = true) := hide (by rw [unhide HS2]; unfold sEq; simp only [empty_toList]; rw [g3]; simp [hk])
            clear hp hq hf hn hF hrg4 hg4 hs4 hV1 hrgV hBV hB4 hV2 hp2 hq2 hk
            go_wp2_with fail
            rw [← unhide HV1, ← unhide HV2]
            go_roundw
            case rel => exact ⟨_, cnt4, HRV, hide (fun k hk hl => unhide HNX k (unhide HA) hk hl), HBV⟩
            case measure => rw [(unhide HRV).left_eq, (unhide HRG).left_eq]; exact hlt4
          | false =>
            have HE : Hid (ndA rs = false) := hide (ndA_no (unhide HLT) (by rw [unhide HS2]; unfold sEq; simp only [empty_toList]; rw [g3]; simp))
            clear hp hq hf hn hF hrg4 hg4 hs4 hV1 hrgV hBV hB4 hV2 hp2 hq2 hk
            go_wp2_with fail
            rw [← unhide HV1, ← unhide HV2]
            go_ret
            exact ⟨ret_bool (unhide HE).symm, unhide HBV⟩
        · rw [if_neg hk] at HBD
          rw [unhide HBD] at hlook
          simp only [Option.getD_none, Option.isSome_none] at hlook
          have HE : Hid (ndA rs = false) := hide (ndA_no (unhide HLT) (by rw [unhide HS2]; simp [hk]))
          rw [hV1] at hlook
          have HBV := hide hBV
          clear hp hq hf hn hF hrg4 hg4 hs4 hV1 hrgV hBV hB4 hk
          go_wp2_with fail
          rw [← unhide HV1]
          go_ret
          exact ⟨ret_bool (unhide HE).symm, (unhide HBV).trans ((bel1 _).mono (unhide HBV).size)⟩

end Go.Proofs.Ytjalfalgffphmaw

namespace Go.Proofs.Ytjalfalgffphmaw
open Go.RowKit Go.Maps Go.WideMaps

/-- The book so far: the block, its content, what has been there. -/
structure Bok (w wr : World) (k : Nat) (rs : List Wr) (qs : Nat → Option Addr × Nat × Nat) : Prop where
  m : MapIs wr w.heap.size k (bkF rs qs k)
  b : Below w.heap.size w wr
theorem Bok.below {w wr w' : World} {k : Nat} {rs : List Wr} {qs : Nat → Option Addr × Nat × Nat} (h : Bok w wr k rs qs) (b : Below wr.heap.size wr w') : Bok w w' k rs qs := ⟨h.m.below b, h.b.trans (b.mono h.b.size)⟩
theorem isSo_is {c : Bool} (qa : Option Addr) (ql qc : Nat) (x : ByteArray) (r : Int) (q : List Int) (l : Bool) (d : ByteArray) (w : World) (hf : wrFit ⟨x, r, q, l, d⟩) (hr : Row w qa ql q) (hc : wrSo ⟨x, r, q, l, d⟩ = c) :
    Calls Try.prog 55 #[.agg #[.string x, .int .i64 r, .slice qa ql qc, .bool l, .string d]] w fun e w' => e = .returned (.bool c) ∧ Below w.heap.size w w' := by
  subst hc; exact isSo_any qa ql qc ⟨x, r, q, l, d⟩ w hf hr
set_option maxRecDepth 20000 in
set_option maxHeartbeats 2000000 in
theorem bookOf_any (ad : Option Addr) (len cap : Nat) (rs : List Wr) (qs : Nat → Option Addr × Nat × Nat) (w : World) (hr : RowV w ad len rs qs) :
    Calls Try.prog 32 #[.slice ad len cap] w fun e w' => ∃ n F, e = .returned (.tuple #[.map (some w.heap.size), .bool (wrB rs)]) ∧ MapIs w' w.heap.size n F ∧ n ≤ 30 ∧ (wrB rs = true → F = bkA rs qs) ∧ Rls F ∧ Below w.heap.size w w' := by
  have hmm := @run_makeMap Try.prog
  have hz := hr.len_eq
  have hs := hr.small
  have HR := hide hr
  have HO := hide hr.open_
  have HFI := hide hr.fit
  have K0 : Hid (Bok w (w.alloc (.map #[] 0)) 0 rs qs) := hide ⟨MapIs.made w, bel1 _⟩
  clear hr
  subst hz
  by_cases hl : 30 < rs.length
  · have hl2 : (30 : Int) < (rs.length : Int) := by omega
    have HE := hide (wrB_long (rs := rs) (by omega))
    go_enter Try.func32, Try.ntmps32
    go_wp2_with fail
    go_ret2
    exact ⟨0, _, by rw [unhide HE]; rfl, (unhide K0).m, by omega, fun h => (by rw [unhide HE] at h; cases h), bkF_rls rs qs 0, (unhide K0).b⟩
  have hl2 : ¬ (30 : Int) < (rs.length : Int) := by omega
  have hl30 : rs.length ≤ 30 := by omega
  clear hl
  go_enter Try.func32, Try.ntmps32
  go_wp2_with fail
  refine (namesOf_any _ _ _ rs _ ((unhide HR).row.alloc _) hl30).mono ?_
  rintro e w1 ⟨g1, c1, rfl, o1, b1⟩
  have O1 := hide o1
  have K1 := hide ((unhide K0).below b1)
  clear o1 b1 K0 hmm
  cases hri : riseS (wrN rs) with
  | false =>
    have HE := hide (wrB_rise hri)
    have HRI := hide hri
    clear hri
    go_wp2_with (go_at_call 53; refine (ascS_any _ _ _ (wrN rs) _ (unhide O1).row).mono ?_; rintro e w2 ⟨rfl, n2, hw⟩; subst w2; rw [unhide HRI])
    go_ret2
    have k2 := (unhide K1).below (bel0d n2)
    exact ⟨0, _, by rw [unhide HE]; rfl, k2.m, by omega, fun h => (by rw [unhide HE] at h; cases h), bkF_rls rs qs 0, k2.b⟩
  | true =>
  have HRI := hide hri
  clear hri
  go_wp2_with (go_at_call 53; refine (ascS_any _ _ _ (wrN rs) _ (unhide O1).row).mono ?_; rintro e w2 ⟨rfl, n2, hw⟩; subst w2; rw [unhide HRI]; have K2 := hide ((unhide K1).below (bel0d n2)))
  obtain ⟨w2, hw2⟩ : ∃ W, W = w1.drewN n2 := ⟨_, rfl⟩
  rw [← hw2] at K2 ⊢
  clear hw2 K1 O1
  go_loopw [20] (fun s20 wr => ∃ i : Nat, i ≤ rs.length ∧ s20 = .int .i64 (i : Int) ∧ Hid (Bok w wr i rs qs) ∧ Hid (∀ j, j < i → wrSo (elAt rs j) = true)) (fun s20 _ => rs.length - (intOf s20).toNat)
  case atStart => exact ⟨0, Nat.zero_le _, rfl, K2, hide (fun j hj => by omega)⟩
  case round =>
    clear K2
    obtain ⟨i, hi, rfl, HK, HN⟩ := hrel
    by_cases hlt : i < rs.length
    · rcases (unhide HO) with ⟨h0, _⟩ | ⟨bb, off, rfl, _, hc⟩
      · omega
      have hat := (hc i hlt).below (unhide HK).b
      have hrow := ((unhide HR).rows i hlt).below (unhide HK).b
      have hfit := unhide HFI i hlt
      have m0 := hat.c0
      have m1 := hat.c1
      have m2 := hat.c2
      have m3 := hat.c3
      have m4 := hat.c4
      have k0 : (0 : Int) ≤ (i : Int) := by omega
      have k1 : (i : Int) < (rs.length : Int) := by omega
      have HS : Hid (bkF rs qs (i + 1) = putF (bkF rs qs i) (elAt rs i).n (wrV (elAt rs i) (qs i))) := hide rfl
      have HLT := hide hlt
      obtain ⟨⟨x, r, q, l, d⟩, hp⟩ : ∃ p, elAt rs i = p := ⟨_, rfl⟩
      obtain ⟨⟨qa, ql, qc⟩, hq⟩ : ∃ q, qs i = q := ⟨_, rfl⟩
      rw [hp] at m0 m1 m3 m4 HS hrow hfit
      rw [hq] at m2 HS hrow
      unfold wrV at HS
      simp only at m0 m1 m2 m3 m4 HS hrow hfit
      have HP := hide hp
      obtain ⟨V, hV⟩ : ∃ V, V = wr.alloc (Obj.cells #[.string x, .int .i64 r, .slice qa ql qc, .bool l, .string d] 56) := ⟨_, rfl⟩
      have KV : Hid (Bok w V i rs qs) := hide (by rw [hV]; exact (unhide HK).below (bel1 _))
      have BV : Blk V wr.heap.size [.string x, .int .i64 r, .slice qa ql qc, .bool l, .string d] := by rw [hV]; exact Blk.new _ _
      have RV : Row V qa ql q := by rw [hV]; exact hrow.alloc _
      have HV := hide hV
      have HX := hide hfit.1
      cases hso : wrSo ⟨x, r, q, l, d⟩ with
      | false =>
        have HE := hide (wrB_so (rs := rs) hlt (by rw [hp]; exact hso))
        have HC := hide (isSo_is qa ql qc x r q l d V hfit RV hso)
        clear hc hat hrow hfit hp hq hV BV RV hso
        go_wp2_with fail
        rw [← unhide HV]
        refine (unhide HC).mono ?_
        rintro e w3 ⟨rfl, b3⟩
        have K3 := hide ((unhide KV).below b3)
        clear b3
        go_wp2_with fail
        go_ret2
        exact ⟨i, _, by rw [unhide HE]; rfl, (unhide K3).m, by omega, fun h => (by rw [unhide HE] at h; cases h), bkF_rls rs qs i, (unhide K3).b⟩
      | true =>
        have HSO : Hid (wrSo (elAt rs i) = true) := hide (by rw [hp]; exact hso)
        have HC := hide (isSo_is qa ql qc x r q l d V hfit RV hso)
        have HBV := hide BV
        clear hc hat hrow hfit hp hq hV BV RV hso
        go_wp2_with fail
        rw [← unhide HV]
        refine (unhide HC).mono ?_
        rintro e w3 ⟨rfl, b3⟩
        have K3 := hide ((unhide KV).below b3)
        have b4 := (unhide HBV).below b3
        have e0 : w3.cell? ⟨wr.heap.size, 0, none⟩ = some (.string x) := b4.c 0 (by simp)
        have e1 : w3.cell? ⟨wr.heap.size, 1, none⟩ = some (.int .i64 r) := b4.c 1 (by simp)
        have e2 : w3.cell? ⟨wr.heap.size, 2, none⟩ = some (.slice qa ql qc) := b4.c 2 (by simp)
        have e3 : w3.cell? ⟨wr.heap.size, 3, none⟩ = some (.bool l) := b4.c 3 (by simp)
        have e4 : w3.cell? ⟨wr.heap.size, 4, none⟩ = some (.string d) := b4.c 4 (by simp)
        obtain ⟨w5, hup, hm5, ht5⟩ := (unhide K3).m.store Try.underlying59 (by omega) (unhide HX) (.agg #[.string x, .int .i64 r, .slice qa ql qc, .bool l, .string d])
        have K5 : Hid (Bok w w5 (i + 1) rs qs) := hide ⟨by rw [unhide HS]; exact hm5, (unhide K3).b.trans (mapTurned_below ht5 (Nat.le_refl _) (unhide K3).b.size)⟩
        clear b3 b4 hm5 ht5
        go_wp2_with fail
        go_roundw
        case rel => exact ⟨i + 1, by omega, by go_num, K5, hide (fun j hj => by rcases Nat.lt_succ_iff_lt_or_eq.1 hj with h | h; exact unhide HN j h; subst h; exact unhide HSO)⟩
        case measure => simp [intOf]; omega
    · have k1 : ¬ (i : Int) < (rs.length : Int) := by omega
      have hie : i = rs.length := by omega
      have HM : Hid (MapIs wr w.heap.size rs.length (bkA rs qs)) := hide (by rw [← bkF_all (unhide HRI), ← hie]; exact (unhide HK).m)
      have HA : Hid (∀ j, j < rs.length → wrSo (elAt rs j) = true) := hide (by rw [← hie]; exact unhide HN)
      have HB := hide (unhide HK).b
      clear hie
      go_wp2_with (go_at_call 56; refine (needs_any _ _ rs qs _ (unhide HM) (unhide HFI) (unhide HRI)).mono ?_; rintro e w3 ⟨rfl, b3⟩; have M3 := hide ((unhide HM).below b3); have B3 := hide ((unhide HB).trans (b3.mono (unhide HB).size)); clear b3)
      go_ret2
      have he : ndA rs = wrB rs := by
        cases g : ndA rs with
        | true => exact (wrB_yes hl30 (unhide HRI) (unhide HA) (fun j hj => of_decide_eq_true g j hj)).symm
        | false =>
          cases g2 : wrB rs with
          | false => rfl
          | true =>
            have : ndA rs = true := ndA_yes (fun j hj => by
              cases g3 : ndB rs j with
              | true => rfl
              | false => rw [wrB_nd hj g3] at g2; cases g2)
            rw [this] at g; cases g
      exact ⟨rs.length, _, by rw [he]; rfl, unhide M3, hl30, fun _ => rfl, bkA_rls rs qs, unhide B3⟩

end Go.Proofs.Ytjalfalgffphmaw
