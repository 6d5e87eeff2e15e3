/-
  Rules in a book: the value of a rule, the book's content by name; whether what the rules need is so, over the book. Nothing that was there is written.
-/
import Derived.Test.YtfehfocfoegbdaaWbIs
import Derived.Test.YtfehfocfoegbdaaMapS
namespace Go.Proofs.Ytfehfocfoegbdaa
open Go.RowKit Go.Maps Go.WideMaps

/-- A rule as a value: where its quiet phases lie is told beside it. -/
def wrV (p : Wr) (q : Option Addr × Nat × Nat) : Value := .agg #[.string p.n, .int .i64 p.r, .slice q.1 q.2.1 q.2.2, .bool p.l, .string p.d]
/-- A slice of rules, with the places of their quiet phases. -/
structure RowV (w : World) (a : Option Addr) (len : Nat) (rs : List Wr) (qs : Nat → Option Addr × Nat × Nat) : Prop where
  len_eq : rs.length = len
  small : len ≤ 9223372036854775807
  cells : ∀ i, i < len → ∃ b off, a = some ⟨b, off, none⟩ ∧ WrAt w b (off + i * 5) (qs i).1 (qs i).2.1 (qs i).2.2 (elAt rs i)
  rows : ∀ i, i < len → Row w (qs i).1 (qs i).2.1 (elAt rs i).q
  caps : ∀ i, i < len → (qs i).2.1 ≤ (qs i).2.2
  fit : ∀ i, i < len → wrFit (elAt rs i)
theorem RowV.row {w : World} {a : Option Addr} {len : Nat} {rs : List Wr} {qs : Nat → Option Addr × Nat × Nat} (h : RowV w a len rs qs) : RowW w a len rs := by
  refine ⟨h.len_eq, h.small, fun i hi => ?_⟩
  obtain ⟨b, off, ha, hc⟩ := h.cells i hi
  exact ⟨b, off, _, _, _, ha, hc, h.rows i hi, h.caps i hi, h.fit i hi⟩
theorem RowV.below {w w' : World} {a : Option Addr} {len : Nat} {rs : List Wr} {qs : Nat → Option Addr × Nat × Nat} (h : RowV w a len rs qs) (k : Below w.heap.size w w') : RowV w' a len rs qs := by
  refine ⟨h.len_eq, h.small, fun i hi => ?_, fun i hi => (h.rows i hi).below k, h.caps, h.fit⟩
  obtain ⟨b, off, ha, hc⟩ := h.cells i hi
  exact ⟨b, off, ha, hc.below k⟩
theorem RowW.v {w : World} {a : Option Addr} {len : Nat} {rs : List Wr} (h : RowW w a len rs) : ∃ qs, RowV w a len rs qs := by
  have : ∀ i, ∃ q : Option Addr × Nat × Nat, i < len → (∃ b off, a = some ⟨b, off, none⟩ ∧ WrAt w b (off + i * 5) q.1 q.2.1 q.2.2 (elAt rs i)) ∧ Row w q.1 q.2.1 (elAt rs i).q ∧ q.2.1 ≤ q.2.2 ∧ wrFit (elAt rs i) := by
    intro i
    by_cases hi : i < len
    · obtain ⟨b, off, qa, ql, qc, ha, hc, hr, hl, hf⟩ := h.cells i hi
      exact ⟨(qa, ql, qc), fun _ => ⟨⟨b, off, ha, hc⟩, hr, hl, hf⟩⟩
    · exact ⟨(none, 0, 0), fun k => absurd k hi⟩
  obtain ⟨qs, hq⟩ := Classical.axiomOfChoice this
  exact ⟨qs, h.len_eq, h.small, fun i hi => (hq i hi).1, fun i hi => (hq i hi).2.1, fun i hi => (hq i hi).2.2.1, fun i hi => (hq i hi).2.2.2⟩
theorem RowV.open_ {w : World} {a : Option Addr} {len : Nat} {rs : List Wr} {qs : Nat → Option Addr × Nat × Nat} (h : RowV w a len rs qs) :
    (len = 0 ∧ rs = []) ∨ ∃ b off, a = some ⟨b, off, none⟩ ∧ 0 < len ∧ ∀ i, i < len → WrAt w b (off + i * 5) (qs i).1 (qs i).2.1 (qs i).2.2 (elAt rs i) := by
  by_cases h0 : len = 0
  · exact .inl ⟨h0, List.length_eq_zero_iff.1 (by rw [h.len_eq, h0])⟩
  · obtain ⟨b, off, ha, _⟩ := h.cells 0 (by omega)
    refine .inr ⟨b, off, ha, by omega, fun i hi => ?_⟩
    obtain ⟨b', off', ha', hc⟩ := h.cells i hi
    rw [ha] at ha'
    simp only [Option.some.injEq, Addr.mk.injEq] at ha'
    obtain ⟨rfl, rfl, _⟩ := ha'
    exact hc
/-- The book of the first k rules. -/
def bkF (rs : List Wr) (qs : Nat → Option Addr × Nat × Nat) : Nat → ByteArray → Option Value
  | 0 => fun _ => none
  | k + 1 => putF (bkF rs qs k) (elAt rs k).n (wrV (elAt rs k) (qs k))
/-- The whole book. -/
def bkA (rs : List Wr) (qs : Nat → Option Addr × Nat × Nat) (s : ByteArray) : Option Value := if wfK rs s < rs.length then some (wrV (elAt rs (wfK rs s)) (qs (wfK rs s))) else none
theorem bkF_at {rs : List Wr} (h : riseS (wrN rs) = true) (qs : Nat → Option Addr × Nat × Nat) (s : ByteArray) : ∀ k, k ≤ rs.length → bkF rs qs k s = if wfK rs s < k then some (wrV (elAt rs (wfK rs s)) (qs (wfK rs s))) else none
  | 0, _ => by simp [bkF]
  | k + 1, hk => by
    have ih := bkF_at h qs s k (by omega)
    show putF _ _ _ s = _
    unfold putF
    by_cases e : s = (elAt rs k).n
    · have e2 := wfK_at h (i := k) (by omega)
      rw [if_pos e, e, e2, if_pos (by omega)]
    · rw [if_neg e, ih]
      have : ¬ wfK rs s = k := fun c => e (by rw [← c]; exact (wfK_nm (by omega)).symm)
      by_cases c : wfK rs s < k
      · rw [if_pos c, if_pos (by omega)]
      · rw [if_neg c, if_neg (by omega)]
theorem bkF_all {rs : List Wr} (h : riseS (wrN rs) = true) (qs : Nat → Option Addr × Nat × Nat) : bkF rs qs rs.length = bkA rs qs := by
  funext s
  exact bkF_at h qs s _ (Nat.le_refl _)
theorem bkA_some {rs : List Wr} {qs : Nat → Option Addr × Nat × Nat} {s : ByteArray} {v : Value} (h : bkA rs qs s = some v) : ∃ i, i < rs.length ∧ (elAt rs i).n = s ∧ v = wrV (elAt rs i) (qs i) := by
  unfold bkA at h
  by_cases c : wfK rs s < rs.length
  · rw [if_pos c] at h
    exact ⟨_, c, wfK_nm c, (Option.some.inj h).symm⟩
  · rw [if_neg c] at h; cases h
theorem bkA_is (rs : List Wr) (qs : Nat → Option Addr × Nat × Nat) (s : ByteArray) : (bkA rs qs s).isSome = decide (wfK rs s < rs.length) := by
  unfold bkA
  by_cases c : wfK rs s < rs.length
  · rw [if_pos c, decide_eq_true c]; rfl
  · rw [if_neg c, decide_eq_false c]; rfl
/-- What a book holds are rules. -/
def Rls (F : ByteArray → Option Value) : Prop := ∀ s v, F s = some v → ∃ p q, v = wrV p q
theorem bkF_rls (rs : List Wr) (qs : Nat → Option Addr × Nat × Nat) : ∀ k, Rls (bkF rs qs k)
  | 0 => fun s v h => by cases h
  | k + 1 => fun s v h => by
    change putF _ _ _ s = _ at h
    unfold putF at h
    by_cases e : s = (elAt rs k).n
    · rw [if_pos e] at h; exact ⟨_, _, (Option.some.inj h).symm⟩
    · rw [if_neg e] at h; exact bkF_rls rs qs k s v h
theorem bkA_rls (rs : List Wr) (qs : Nat → Option Addr × Nat × Nat) : Rls (bkA rs qs) := fun s v h => by
  obtain ⟨i, _, _, e⟩ := bkA_some h
  exact ⟨_, _, e⟩
/-- Whether all that rules need is so. -/
def ndA (rs : List Wr) : Bool := decide (∀ i, i < rs.length → ndB rs i = true)
theorem ndA_no {rs : List Wr} {i : Nat} (hi : i < rs.length) (h : ndB rs i = false) : ndA rs = false := decide_eq_false (fun k => by have := k i hi; rw [h] at this; cases this)
theorem ndA_yes {rs : List Wr} (h : ∀ i, i < rs.length → ndB rs i = true) : ndA rs = true := decide_eq_true h
theorem empty_toList : (⟨#[]⟩ : ByteArray).toList = [] := by simp

set_option maxRecDepth 20000 in
set_option maxHeartbeats 2000000 in
theorem needs_any (b n : Nat) (rs : List Wr) (qs : Nat → Option Addr × Nat × Nat) (w : World) (hm : MapIs w b n (bkA rs qs)) (hf : ∀ i, i < rs.length → wrFit (elAt rs i)) (hri : riseS (wrN rs) = true) :
    Calls Try.prog 33 #[.map (some b)] w fun e w' => e = .returned (.bool (ndA rs)) ∧ Below w.heap.size w w' := by
  have HM := hide hm
  have HF := hide hf
  have HRI := hide hri
  have hbl := hm.lt
  clear hm hf hri
  go_enter Try.func33, Try.ntmps33
  go_wp2_with (first
    | (at_range; refine wpList_range_is rfl _ 50 rfl Try.underlying50 rfl (unhide HM) ?_; intro w1 cnt hrg1 _ hg1 hs1)
    | go_in)
  go_frame
  have HRG1 := hide hrg1
  have B1 := hide ((Below.refl w.heap.size w).grown hg1 (Nat.le_refl _) (fun j hj => by cases hj))
  clear hrg1 hg1 hs1
  go_loopw [] (fun wr => ∃ (L : ByteArray → Bool) (cnt : Nat), Hid (RangeIs wr b w.heap.size n (bkA rs qs) L cnt) ∧ Hid (∀ i, i < rs.length → L (elAt rs i).n = false → ndB rs i = true) ∧ Hid (Below w.heap.size w wr)) (fun wr => wr.rangeLeft b w.heap.size)
  case atStart =>
    refine ⟨_, _, HRG1, hide (fun i hi hl => ?_), B1⟩
    rw [bkA_is, wfK_at (unhide HRI) hi, decide_eq_true hi] at hl
    cases hl
  case round =>
    obtain ⟨L, cnt, HRG, HOK, HB⟩ := hrel
    clear HRG1 B1
    go_wp2_with (first
      | (at_next; refine wpList_next_is rfl _ rfl rfl (unhide HRG) ?_ ?_)
      | go_in)
    · intro hl
      have HE := hide (ndA_yes (rs := rs) (fun i hi => unhide HOK i hi (hl _)))
      clear hl
      go_wp2_with fail
      go_ret
      exact ⟨ret_bool (unhide HE).symm, unhide HB⟩
    · intro s v w4 cnt4 hss hL hF hrg4 hlt4 hg4 hs4 hen
      obtain ⟨i, hi, hn, rfl⟩ := bkA_some hF
      have hf := unhide HF i hi
      have hB4 := (unhide HB).grown hg4 (unhide HB).size (fun q hq => by cases hq; exact Nat.le_refl _)
      have HS : Hid (ndB rs i = (sEq (elAt rs i).d ⟨#[]⟩ || (decide (wfK rs (elAt rs i).d < rs.length) && sEq (elAt rs (wfK rs (elAt rs i).d)).d ⟨#[]⟩))) := hide rfl
      have HLT := hide hi
      have HNX : Hid (∀ k, ndB rs i = true → k < rs.length → (L (elAt rs k).n && !decide ((elAt rs k).n = s)) = false → ndB rs k = true) := hide (fun k hy hk hl => by
        rcases Bool.and_eq_false_iff.1 hl with h | h
        · exact unhide HOK k hk h
        · have h : (elAt rs k).n = s := by simpa using h
          have e : elAt (wrN rs) k = elAt (wrN rs) i := by rw [wrN_at hk, wrN_at hi, h, hn]
          have := riseS_ne (unhide HRI) (by rw [wrN_len]; exact hk) (by rw [wrN_len]; exact hi) e
          subst this; exact hy)
      obtain ⟨⟨x, r, q, l, d⟩, hp⟩ : ∃ p, elAt rs i = p := ⟨_, rfl⟩
      obtain ⟨⟨qa, ql, qc⟩, hq⟩ : ∃ q, qs i = q := ⟨_, rfl⟩
      rw [hp] at HS hf
      have hfd := hf.2
      rw [hp, hq] at hen ⊢
      unfold wrV at hen ⊢
      simp only at hen hfd HS ⊢
      obtain ⟨V1, hV1⟩ : ∃ V, V = w4.alloc (Obj.cells #[.string x, .int .i64 r, .slice qa ql qc, .bool l, .string d] 48) := ⟨_, rfl⟩
      have hrgV : RangeIs V1 b w.heap.size n (bkA rs qs) (fun t => L t && !decide (t = s)) cnt4 := by rw [hV1]; exact hrg4.below (bel1 _)
      have hBV : Below w.heap.size w V1 := by rw [hV1]; exact hB4.trans ((bel1 _).mono hB4.size)
      have HV1 := hide hV1
      cases g : (d.toList == []) with
      | true =>
        have HA : Hid (ndB rs i = true) := hide (by rw [unhide HS]; unfold sEq; simp only [empty_toList]; rw [g]; rfl)
        have HRV := hide hrgV
        have HBV := hide hBV
        clear hp hq hf hn hF hrg4 hg4 hs4 hV1 hrgV hBV hB4
        go_wp2_with fail
        rw [← unhide HV1]
        go_roundw
        case rel => exact ⟨_, cnt4, HRV, hide (fun k hk hl => unhide HNX k (unhide HA) hk hl), HBV⟩
        case measure => rw [(unhide HRV).left_eq, (unhide HRG).left_eq]; exact hlt4
      | false =>
        have HS2 : Hid (ndB rs i = (decide (wfK rs d < rs.length) && sEq (elAt rs (wfK rs d)).d ⟨#[]⟩)) := hide (by
          have : sEq d ⟨#[]⟩ = false := by unfold sEq; rw [empty_toList]; exact g
          rw [unhide HS, this, Bool.false_or])
        have hlook := hrgV.map.look Try.underlying50 (Try.zeroValue48 V1) hfd
        have HBD : Hid (bkA rs qs d = if wfK rs d < rs.length then some (wrV (elAt rs (wfK rs d)) (qs (wfK rs d))) else none) := hide rfl
        by_cases hk : wfK rs d < rs.length
        · rw [if_pos hk] at HBD
          obtain ⟨⟨x2, r2, q2, l2, d2⟩, hp2⟩ : ∃ p, elAt rs (wfK rs d) = p := ⟨_, rfl⟩
          obtain ⟨⟨qa2, ql2, qc2⟩, hq2⟩ : ∃ q, qs (wfK rs d) = q := ⟨_, rfl⟩
          rw [hp2, hq2] at HBD
          rw [hp2] at HS2
          rw [unhide HBD] at hlook
          unfold wrV at hlook
          simp only [Option.getD_some, Option.isSome_some] at hlook
          rw [hV1] at hlook
          obtain ⟨V2, hV2⟩ : ∃ V, V = V1.alloc (Obj.cells #[.string x2, .int .i64 r2, .slice qa2 ql2 qc2, .bool l2, .string d2] 48) := ⟨_, rfl⟩
          have HRV : Hid (RangeIs V2 b w.heap.size n (bkA rs qs) (fun t => L t && !decide (t = s)) cnt4) := hide (by rw [hV2]; exact hrgV.below (bel1 _))
          have HBV : Hid (Below w.heap.size w V2) := hide (by rw [hV2]; exact hBV.trans ((bel1 _).mono hBV.size))
          have HV2 := hide hV2
          cases g3 : (d2.toList == []) with
          | true =>
            have HA : Hid (ndB rs i = true) := hide (by rw [unhide HS2]; unfold sEq; simp only [empty_toList]; rw [g3]; simp [hk])
            clear hp hq hf hn hF hrg4 hg4 hs4 hV1 hrgV hBV hB4 hV2 hp2 hq2 hk
            go_wp2_with fail
            rw [← unhide HV1, ← unhide HV2]
            go_roundw
            case rel => exact ⟨_, cnt4, HRV, hide (fun k hk hl => unhide HNX k (unhide HA) hk hl), HBV⟩
            case measure => rw [(unhide HRV).left_eq, (unhide HRG).left_eq]; exact hlt4
          | false =>
            have HE : Hid (ndA rs = false) := hide (ndA_no (unhide HLT) (by rw [unhide HS2]; unfold sEq; simp only [empty_toList]; rw [g3]; simp))
            clear hp hq hf hn hF hrg4 hg4 hs4 hV1 hrgV hBV hB4 hV2 hp2 hq2 hk
            go_wp2_with fail
            rw [← unhide HV1, ← unhide HV2]
            go_ret
            exact ⟨ret_bool (unhide HE).symm, unhide HBV⟩
        · rw [if_neg hk] at HBD
          rw [unhide HBD] at hlook
          simp only [Option.getD_none, Option.isSome_none] at hlook
          have HE : Hid (ndA rs = false) := hide (ndA_no (unhide HLT) (by rw [unhide HS2]; simp [hk]))
          rw [hV1] at hlook
          have HBV := hide hBV
          clear hp hq hf hn hF hrg4 hg4 hs4 hV1 hrgV hBV hB4 hk
          go_wp2_with fail
          rw [← unhide HV1]
          go_ret
          exact ⟨ret_bool (unhide HE).symm, (unhide HBV).trans ((bel1 _).mono (unhide HBV).size)⟩

end Go.Proofs.Ytfehfocfoegbdaa
