/-
  Gaps within a frame, a window that is put in, ticks that are idle, in plain numbers. No program here.
  What the law FnWindows counts: lists of shares and of ticks, in plain numbers; sameInts. No condition.
-/
import Derived.Test.YtndhiecakojjgafPure1
import Derived.Test.YtndhiecakojjgafFt2
import Derived.Test.YtndhiecakojjgafRm1
import Derived.Test.YtndhiecakojjgafOwn1

namespace Go.Proofs.Ytndhiecakojjgaf
open Go

/-- The windows of a partition lie one behind the other, ahead of where the plan's first k end. -/
theorem shM_ord {fr pa : Int} {ws : List Wn} (h : ppB fr pa ws = true) (p : Int) : ∀ k, k ≤ ws.length → (∀ i, i < (shM ws p k).length → (elAt (shM ws p k) i).a1 + (elAt (shM ws p k) i).a2 ≤ pwE ws k) ∧ (∀ i, i + 1 < (shM ws p k).length → (elAt (shM ws p k) i).a1 + (elAt (shM ws p k) i).a2 ≤ (elAt (shM ws p k) (i + 1)).a1)
  | 0, _ => ⟨fun i hi => by simp [shM] at hi, fun i hi => by simp [shM] at hi⟩
  | k + 1, hk => by
    have ih := shM_ord h p k (by omega)
    have w := wnB_facts ((ppB_facts h).2.2.2 k (by omega))
    have e1 : pwE ws (k + 1) = (elAt ws k).a1 + (elAt ws k).a2 := rfl
    have hstep : ∀ i, i < (shM ws p k).length → (elAt (shM ws p k) i).a1 + (elAt (shM ws p k) i).a2 ≤ (elAt ws k).a1 := fun i hi => by
      have := ih.1 i hi
      omega
    simp only [shM]
    split
    · have ap := elAt_app (shM ws p k) (elAt ws k)
      refine ⟨fun i hi => ?_, fun i hi => ?_⟩
      · rw [e1]
        by_cases q : i < (shM ws p k).length
        · rw [ap.1 i q]
          have := hstep i q
          omega
        · obtain rfl : i = (shM ws p k).length := by simp at hi; omega
          rw [ap.2]
          omega
      · have hi2 : i < (shM ws p k).length := by simp at hi; omega
        rw [ap.1 i hi2]
        by_cases q : i + 1 < (shM ws p k).length
        · rw [ap.1 (i + 1) q]; exact ih.2 i q
        · rw [show i + 1 = (shM ws p k).length by omega, ap.2]
          exact hstep i hi2
    · refine ⟨fun i hi => ?_, ih.2⟩
      have := hstep i hi
      omega
theorem shM_first {fr pa : Int} {ws : List Wn} (h : ppB fr pa ws = true) (p : Int) {M : List Wn} (hM : M = shM ws p ws.length) : ∀ j, j < M.length → (elAt M 0).a1 ≤ (elAt M j).a1
  | 0, _ => Int.le_refl _
  | j + 1, hj => by
    have ih := shM_first h p hM j (by omega)
    have o := (shM_ord h p ws.length (Nat.le_refl _)).2 j (by rw [← hM]; exact hj)
    have wi := shM_in p ws.length (ppB_in h) ws.length (Nat.le_refl _) j (by rw [← hM]; omega)
    rw [← hM] at o wi
    simp only [WnIn] at wi
    omega
theorem shG_le {fr pa : Int} {ws : List Wn} (h : ppB fr pa ws = true) (p : Int) {M : List Wn} (hM : M = shM ws p ws.length) : ∀ k, k ≤ M.length → 0 ≤ shG fr M k ∧ shG fr M k ≤ fr
  | 0, _ => by have := (ppB_facts h).1; simp only [shG]; omega
  | k + 1, hk => by
    have ih := shG_le h p hM k (by omega)
    have o := shM_ord h p ws.length (Nat.le_refl _)
    rw [← hM] at o
    have t := totL_le h ws.length (Nat.le_refl _)
    have wi := shM_in p ws.length (ppB_in h) ws.length (Nat.le_refl _) k (by rw [← hM]; omega)
    have w0 := shM_in p ws.length (ppB_in h) ws.length (Nat.le_refl _) 0 (by rw [← hM]; omega)
    have fk := shM_first h p hM k (by omega)
    rw [← hM] at wi w0
    simp only [WnIn] at wi w0
    have o1 := o.1 k (by omega)
    simp only [shG, shN]
    split
    · rename_i q
      have o2 := o.2 k q
      have o3 := o.1 (k + 1) q
      have w2 := shM_in p ws.length (ppB_in h) ws.length (Nat.le_refl _) (k + 1) (by rw [← hM]; exact q)
      rw [← hM] at w2
      simp only [WnIn] at w2
      omega
    · omega
theorem shQ_in {fr pa p : Int} {ws : List Wn} (hv : shB fr pa ws p = true) : 0 ≤ shQ fr pa ws p ∧ shQ fr pa ws p ≤ fr := by
  have h : ppB fr pa ws = true := by
    rw [shB, Bool.and_eq_true] at hv
    exact hv.1
  have f := (ppB_facts h).1
  unfold shQ
  rw [if_pos hv]
  split
  · omega
  · exact shG_le h p rfl _ (Nat.le_refl _)
theorem shR_in {fr pa p : Int} {ws : List Wn} (hv : shB fr pa ws p = true) : shR fr pa ws p = shS ws p ws.length ∧ 0 ≤ shS ws p ws.length ∧ shS ws p ws.length ≤ 400000 := by
  have h : ppB fr pa ws = true := by
    rw [shB, Bool.and_eq_true] at hv
    exact hv.1
  have l := (ppB_facts h).2.2.1
  have s := shS_in p ws.length (ppB_in h) ws.length (Nat.le_refl _)
  refine ⟨by rw [shR, if_pos hv], s.1, by omega⟩
theorem insL_lt {ps : List Wn} {k j : Nat} {x : Wn} (h : k ≤ ps.length) (hj : j < k) : elAt (insL ps k x) j = elAt ps j := by rw [insL_at h, if_pos hj]
theorem insL_eq {ps : List Wn} {k : Nat} {x : Wn} (h : k ≤ ps.length) : elAt (insL ps k x) k = x := by rw [insL_at h, if_neg (Nat.lt_irrefl _), if_pos rfl]
theorem insL_gt {ps : List Wn} {k j : Nat} {x : Wn} (h : k ≤ ps.length) (hj : k < j) : elAt (insL ps k x) j = elAt ps (j - 1) := by
  have h1 : ¬ j < k := by omega
  have h2 : ¬ j = k := by omega
  rw [insL_at h, if_neg h1, if_neg h2]
/-- A plan with a window put in is so. -/
theorem ft_plan {fr pa p lg : Int} {ws : List Wn} (hb : ftB fr pa ws p lg = true) : ppB fr pa (ftL fr pa ws p lg) = true ∧ ftL fr pa ws p lg = insL ws (ftK fr ws lg) ⟨p, pwE ws (ftK fr ws lg), lg⟩ ∧ ftK fr ws lg ≤ ws.length := by
  have hA : ftA fr pa ws p lg = true ∧ decide (ftK fr ws lg ≤ ws.length) = true := by
    rw [ftB, Bool.and_eq_true] at hb
    exact hb
  have hk := of_decide_eq_true hA.2
  have f := ftA_facts hA.1
  have g := ppB_facts f.1
  have e := (ft_at hA.1 hk rfl).2
  refine ⟨?_, e, hk⟩
  obtain ⟨K, hK⟩ : ∃ K, ftK fr ws lg = K := ⟨_, rfl⟩
  rw [hK] at e hk
  have hG : ftG fr ws lg K = true := by
    cases q : (List.range (ws.length + 1)).find? (fun k => ftG fr ws lg k) with
    | none =>
      rw [List.find?_eq_none] at q
      have : ftK fr ws lg = ws.length + 1 := ftK_none (fun j hj => by simpa using q j (by simp; omega))
      omega
    | some j =>
      have h2 : ftK fr ws lg = j := by unfold ftK; rw [q]; rfl
      have h3 := List.find?_some q
      rw [← hK, h2]
      exact h3
  have hf := of_decide_eq_true (show decide (pwE ws K + lg ≤ ftN fr ws K) = true from hG)
  have hp := in_facts f.2.2.1
  have hl := in_facts f.2.2.2
  have hE := pwE_in f.1 K hk
  have he := totL_le f.1 K hk
  have hlen : (insL ws K (⟨p, pwE ws K, lg⟩ : Wn)).length = ws.length + 1 := insL_len hk
  rw [e, insL_is]
  have e1 : ∀ j, j ≤ K → pwE (insL ws K (⟨p, pwE ws K, lg⟩ : Wn)) j = pwE ws j := fun j hj => by
    cases j with
    | zero => rfl
    | succ i =>
      show (elAt (insL ws K (⟨p, pwE ws K, lg⟩ : Wn)) i).a1 + (elAt (insL ws K (⟨p, pwE ws K, lg⟩ : Wn)) i).a2 = _
      rw [insL_lt hk (by omega)]
      rfl
  have e2 : pwE (insL ws K (⟨p, pwE ws K, lg⟩ : Wn)) (K + 1) = pwE ws K + lg := by
    show (elAt (insL ws K (⟨p, pwE ws K, lg⟩ : Wn)) K).a1 + (elAt (insL ws K (⟨p, pwE ws K, lg⟩ : Wn)) K).a2 = _
    rw [insL_eq hk]
  have e3 : ∀ j, K < j → pwE (insL ws K (⟨p, pwE ws K, lg⟩ : Wn)) (j + 1) = pwE ws j := fun j hj => by
    show (elAt (insL ws K (⟨p, pwE ws K, lg⟩ : Wn)) j).a1 + (elAt (insL ws K (⟨p, pwE ws K, lg⟩ : Wn)) j).a2 = _
    rw [insL_gt hk hj]
    obtain ⟨m, rfl⟩ : ∃ m, j = m + 1 := ⟨j - 1, by omega⟩
    rfl
  simp only [ppB, Bool.and_eq_true, decide_eq_true_eq]
  refine ⟨⟨⟨by simp only [inB, decide_eq_true_eq]; omega, by simp only [inB, decide_eq_true_eq]; omega⟩, by rw [hlen]; omega⟩, ?_⟩
  refine pwB_yes (fun k hkk => ?_)
  rw [hlen] at hkk
  rcases Nat.lt_trichotomy k K with q | q | q
  · rw [e1 k (by omega), insL_lt hk q]
    exact g.2.2.2 k (by omega)
  · subst q
    rw [e1 k (Nat.le_refl _), insL_eq hk]
    have hN : ftN fr ws k ≤ fr := by
      unfold ftN
      split
      · rename_i z
        have := ppB_all f.1 z
        omega
      · omega
    simp only [wnB, inB, Bool.and_eq_true, decide_eq_true_eq]
    omega
  · rw [insL_gt hk q]
    have w := wnB_facts (g.2.2.2 (k - 1) (by omega))
    by_cases q3 : k = K + 1
    · subst q3
      rw [e2]
      have hN : ftN fr ws K = (elAt ws K).a1 := by rw [ftN, if_pos (by omega)]
      rw [hN] at hf
      rw [show K + 1 - 1 = K from rfl] at w ⊢
      simp only [wnB, inB, Bool.and_eq_true, decide_eq_true_eq]
      omega
    · obtain ⟨m, rfl⟩ : ∃ m, k = m + 1 := ⟨k - 1, by omega⟩
      rw [e3 m (by omega)]
      exact g.2.2.2 m (by omega)
/-- A window that is put in takes nothing from any other one. -/
theorem ft_owner {fr pa lg t : Int} {ws : List Wn} (hb : ftB fr pa ws 0 lg = true) (h0 : 0 ≤ t) (h1 : t < fr) : (0 ≤ owR fr pa ws t → owR fr pa (ftL fr pa ws 0 lg) t = owR fr pa ws t) ∧ (owR fr pa ws t < 0 → owR fr pa (ftL fr pa ws 0 lg) t ≤ 0) := by
  obtain ⟨hp, he, hk⟩ := ft_plan hb
  have hA : ftA fr pa ws 0 lg = true := by
    rw [ftB, Bool.and_eq_true] at hb
    exact hb.1
  have hp0 := (ftA_facts hA).1
  have f := (ppB_facts hp0).1
  have c := ow_char (owB_is hp0 (t := t) (by omega))
  have c2 := ow_char (owB_is hp (t := t) (by omega))
  obtain ⟨K, hK⟩ : ∃ K, ftK fr ws lg = K := ⟨_, rfl⟩
  rw [hK] at he hk
  have hlen : (ftL fr pa ws 0 lg).length = ws.length + 1 := by rw [he]; exact insL_len hk
  have a1 : ∀ j, j < K → elAt (ftL fr pa ws 0 lg) j = elAt ws j := fun j hj => by rw [he]; exact insL_lt hk hj
  have a2' : elAt (ftL fr pa ws 0 lg) K = ⟨0, pwE ws K, lg⟩ := by rw [he]; exact insL_eq hk
  have a3 : ∀ j, K < j → elAt (ftL fr pa ws 0 lg) j = elAt ws (j - 1) := fun j hj => by rw [he]; exact insL_gt hk hj
  refine ⟨fun hw => ?_, fun hw => ?_⟩
  · rcases c with ⟨i, a, b, e⟩ | ⟨_, e⟩
    · obtain ⟨j, hj, ej⟩ : ∃ j, j < (ftL fr pa ws 0 lg).length ∧ elAt (ftL fr pa ws 0 lg) j = elAt ws i := by
        by_cases q : i < K
        · exact ⟨i, by omega, a1 i q⟩
        · exact ⟨i + 1, by omega, a3 (i + 1) (by omega)⟩
      rcases c2 with ⟨i2, a2, b2, e2⟩ | ⟨n2, _⟩
      · have := inW_one hp a2 hj b2 (by rw [ej]; exact b)
        subst this
        rw [e2, e, ej]
      · have := n2 j hj
        rw [ej, b] at this
        cases this
    · omega
  · rcases c with ⟨i, a, b, e⟩ | ⟨n1, e⟩
    · have := ppB_all hp0 a
      omega
    · rcases c2 with ⟨i2, a2, b2, e2⟩ | ⟨_, e2⟩
      · rw [e2]
        rcases Nat.lt_trichotomy i2 K with q | q | q
        · rw [a1 i2 q, n1 i2 (by omega)] at b2
          cases b2
        · subst q
          rw [a2']
          exact Int.le_refl 0
        · rw [a3 i2 q, n1 (i2 - 1) (by omega)] at b2
          cases b2
      · omega
/-- Ticks that are idle: never more than those of windows; without jobs just those. -/
theorem rjGo_idl (js : List Jb) (who t : Int) (s : RjS) : (rjGo js who t s).idl ≤ s.idl + if 0 ≤ who then 1 else 0 := by
  by_cases q : 0 ≤ who
  · rw [if_pos q]
    unfold rjGo
    by_cases q2 : 0 ≤ rjBe js (rjLf js t s.lf js.length) (rjCm js t s.cm js.length) who js.length
    · rw [if_pos q2]; show s.idl ≤ s.idl + 1; omega
    · rw [if_neg q2, if_pos q]; exact Int.le_refl _
  · rw [if_neg q]
    unfold rjGo
    by_cases q2 : 0 ≤ rjBe js (rjLf js t s.lf js.length) (rjCm js t s.cm js.length) who js.length
    · rw [if_pos q2]; show s.idl ≤ s.idl + 0; omega
    · rw [if_neg q2, if_neg q]; show s.idl ≤ s.idl + 0; omega
theorem idl_le {fr pa : Int} {ws : List Wn} {js : List Jb} : ∀ t, (rjT fr pa ws js t).idl ≤ cntB (fun u => decide (0 ≤ owR fr pa ws (u : Int))) t
  | 0 => Int.le_refl 0
  | t + 1 => by
    have ih := idl_le (fr := fr) (pa := pa) (ws := ws) (js := js) t
    have st := rjGo_idl js (owR fr pa ws (t : Int)) (t : Int) (rjT fr pa ws js t)
    rw [rjT, cntB]
    simp only [decide_eq_true_eq]
    omega
theorem idl_nil {fr pa : Int} {ws : List Wn} : ∀ t, (rjT fr pa ws [] t).idl = cntB (fun u => decide (0 ≤ owR fr pa ws (u : Int))) t
  | 0 => rfl
  | t + 1 => by
    have ih := idl_nil (fr := fr) (pa := pa) (ws := ws) t
    rw [rjT, cntB]
    unfold rjGo
    have e : rjBe [] (rjLf [] (t : Int) (rjT fr pa ws [] t).lf ([] : List Jb).length) (rjCm [] (t : Int) (rjT fr pa ws [] t).cm ([] : List Jb).length) (owR fr pa ws (t : Int)) ([] : List Jb).length = -1 := rfl
    rw [e, if_neg (by omega)]
    show (if 0 ≤ owR fr pa ws (t : Int) then (rjT fr pa ws [] t).idl + 1 else (rjT fr pa ws [] t).idl) = _
    by_cases q : 0 ≤ owR fr pa ws (t : Int)
    · rw [if_pos q, if_pos (decide_eq_true q)]; omega
    · rw [if_neg q, if_neg (by simpa using q)]; omega
theorem cnt_owned {fr pa : Int} {ws : List Wn} (h : ppB fr pa ws = true) {P : Nat} (hP : (P : Int) = pa) : cntB (fun u => decide (0 ≤ owR fr pa ws (u : Int))) fr.toNat = psum ws P := by
  have f := (ppB_facts h).1
  rw [(psum_all h hP).1, ← cnt_all h ws.length (Nat.le_refl _)]
  refine cntB_cong _ (fun t ht => ?_)
  have := ow_any h (t := (t : Int)) (by omega) (by omega)
  cases q : pA ws ws.length (t : Int) with
  | true => exact decide_eq_true (this.2 q)
  | false => exact decide_eq_false (fun x => by rw [this.1 x] at q; cases q)
theorem cnt_own {fr pa : Int} {ws : List Wn} (h : ppB fr pa ws = true) (k : Nat) : cntB (fun u => decide (owR fr pa ws (u : Int) = (k : Int))) fr.toNat = shS ws (k : Int) ws.length := by
  have f := (ppB_facts h).1
  rw [← cnt_part h (k : Int) ws.length (Nat.le_refl _)]
  refine cntB_cong _ (fun t ht => ?_)
  have := ow_part h (t := (t : Int)) (by omega) (by omega) (k := (k : Int)) (by omega)
  cases q : pK ws (k : Int) ws.length (t : Int) with
  | true => exact decide_eq_true (this.2 q)
  | false => exact decide_eq_false (fun x => by rw [this.1 x] at q; cases q)

end Go.Proofs.Ytndhiecakojjgaf

namespace Go.Proofs.Ytndhiecakojjgaf
open Go.RowKit

def wfS (ws : List Wn) : Nat → List Int
  | 0 => []
  | k + 1 => wfS ws k ++ [shS ws (k : Int) ws.length]
theorem wfS_len (ws : List Wn) : ∀ k, (wfS ws k).length = k
  | 0 => rfl
  | k + 1 => by simp [wfS, wfS_len ws k]
theorem wfS_at (ws : List Wn) : ∀ k j, j < k → nth (wfS ws k) j = shS ws (j : Int) ws.length
  | 0, j, h => by omega
  | k + 1, j, h => by
    unfold nth
    rw [wfS]
    by_cases e : j < k
    · rw [List.getElem?_append_left (by rw [wfS_len]; exact e)]
      exact wfS_at ws k j e
    · obtain rfl : j = k := by omega
      rw [List.getElem?_append_right (by rw [wfS_len]; exact Nat.le_refl _), wfS_len]
      simp
/-- How many of the first t ticks are each partition's. -/
def wfC (fr pa : Int) (ws : List Wn) (P t : Nat) : List Int := (List.range P).map fun (k : Nat) => cntB (fun u => decide (owR fr pa ws (u : Int) = (k : Int))) t
theorem wfC_len (fr pa : Int) (ws : List Wn) (P t : Nat) : (wfC fr pa ws P t).length = P := by simp [wfC]
theorem wfC_at {fr pa : Int} {ws : List Wn} {P t k : Nat} (h : k < P) : nth (wfC fr pa ws P t) k = cntB (fun u => decide (owR fr pa ws (u : Int) = (k : Int))) t := by simp [wfC, nth, h]
theorem wfC_zero (fr pa : Int) (ws : List Wn) (P : Nat) : wfC fr pa ws P 0 = List.replicate P 0 := by
  apply List.ext_getElem (by simp [wfC])
  intro i h1 h2
  simp [wfC, cntB]
theorem list_nth_ext {xs ys : List Int} (hl : xs.length = ys.length) (h : ∀ k, k < xs.length → nth xs k = nth ys k) : xs = ys := by
  apply List.ext_getElem hl
  intro i h1 h2
  have := h i h1
  simpa [nth, h1, h2] using this
theorem wfC_hit {fr pa : Int} {ws : List Wn} {P t b : Nat} (hb : b < P) (hw : owR fr pa ws (t : Int) = (b : Int)) : wfC fr pa ws P (t + 1) = (wfC fr pa ws P t).set b (nth (wfC fr pa ws P t) b + 1) := by
  refine list_nth_ext (by rw [List.length_set, wfC_len, wfC_len]) (fun k hk => ?_)
  rw [wfC_len] at hk
  rw [nth_set _ _ _ _ (by rw [wfC_len]; exact hb), wfC_at hk, wfC_at hb, wfC_at hk, cntB]
  by_cases e : k = b
  · subst e
    rw [if_pos rfl, if_pos (decide_eq_true hw)]
  · rw [if_neg e, if_neg (by rw [hw]; simp only [decide_eq_true_eq]; omega)]
    omega
theorem wfC_miss {fr pa : Int} {ws : List Wn} {P t : Nat} (hw : owR fr pa ws (t : Int) < 0) : wfC fr pa ws P (t + 1) = wfC fr pa ws P t := by
  refine list_nth_ext (by rw [wfC_len, wfC_len]) (fun k hk => ?_)
  rw [wfC_len] at hk
  rw [wfC_at hk, wfC_at hk, cntB, if_neg (by simp only [decide_eq_true_eq]; omega)]
  omega
theorem wfC_all {fr pa : Int} {ws : List Wn} (h : ppB fr pa ws = true) (P : Nat) : wfC fr pa ws P fr.toNat = wfS ws P := by
  refine list_nth_ext (by rw [wfC_len, wfS_len]) (fun k hk => ?_)
  rw [wfC_len] at hk
  rw [wfC_at hk, wfS_at ws P k hk, cnt_own h k]
set_option maxRecDepth 20000 in
set_option maxHeartbeats 1000000 in
theorem sameInts_yes (ad bd : Option Addr) (len c1 c2 : Nat) (zs : List Int) (w : World) (h1 : Row w ad len zs) (h2 : Row w bd len zs) (hl : len ≤ 1000) :
    Calls Try.prog 27 #[.slice ad len c1, .slice bd len c2] w fun e w' => e = .returned (.bool true) ∧ Below w.heap.size w w' := by
  have hz := h1.len_eq
  subst hz
  have HR1 := hide h1
  have HR2 := hide h2
  obtain ⟨ι, fW, _, hb, hall⟩ := belClass w
  have HB := hide hb
  have HA := hide hall
  obtain ⟨y0, h0⟩ := hall w (Below.refl _ _)
  have H0 := hide h0
  have e0 : ((zs.length : Int) != (zs.length : Int)) = false := by simp
  clear hb hall h1 h2
  go_enter Try.func27, Try.ntmps27
  rw [h0]
  clear h0
  go_wp2_with fail
  go_loopw [5] (fun s5 wr => ∃ (k : Nat) (x : ι), k ≤ zs.length ∧ s5 = .int .i64 (k : Int) ∧ wr = fW x) (fun s5 _ => zs.length - (intOf s5).toNat)
  case atStart => exact ⟨0, _, Nat.zero_le _, rfl, rfl⟩
  case round =>
    obtain ⟨k, x, hk, rfl, rfl⟩ := hrel
    by_cases hlt : k < zs.length
    · rcases (unhide HR1).open_ with ⟨z0, _⟩ | ⟨b1, o1, rfl, _, hc1⟩
      · omega
      rcases (unhide HR2).open_ with ⟨z0, _⟩ | ⟨b2, o2, rfl, _, hc2⟩
      · omega
      have m1 : ∀ x, (fW x).cell? ⟨b1, o1 + k, none⟩ = some (.int .i64 (nth zs k)) := fun x => ((unhide HB x).cell (block_lt_of_cell (hc1 k hlt))).trans (hc1 k hlt)
      have m2 : ∀ x, (fW x).cell? ⟨b2, o2 + k, none⟩ = some (.int .i64 (nth zs k)) := fun x => ((unhide HB x).cell (block_lt_of_cell (hc2 k hlt))).trans (hc2 k hlt)
      have k0 : (0 : Int) ≤ (k : Int) := by omega
      have k1 : (k : Int) < (zs.length : Int) := by omega
      have e1 : (nth zs k != nth zs k) = false := by simp
      clear hc1 hc2
      go_wp2_with fail
      (refine wp_region_bel (fun w' h => (unhide HA) w' ((unhide HB _).trans (h.mono (unhide HB _).size))) (by kernel_rfl) (by kernel_rfl) ?_; (repeat (go_big_quiet_step (fail))); refine wpQuiet_nil ?_; rintro _ ⟨y, rfl⟩)
      go_wp2_with fail
      go_roundw
      case rel => exact ⟨k + 1, _, by omega, by go_num, rfl⟩
      case measure => simp [intOf]; omega
    · have k1 : ¬ (k : Int) < (zs.length : Int) := by omega
      go_wp2_with fail
      go_ret
      exact ⟨rfl, by rw [← unhide H0]; exact unhide HB _⟩

end Go.Proofs.Ytndhiecakojjgaf
