/-
  Plain facts on two networks that carry the words of one link in order, some of them lost on either: what is taken, what is missed. No program here.
-/
import Derived.Test.YticdccdkjepifaaMBuGetM
import Derived.Test.YticdccdkjepifaaBoPure
namespace Go.Proofs.Yticdccdkjepifaa
open Go Go.RowKit

theorem inter_app2 {α : Type} {a b : α} : ∀ (xs ys : List α), xs.length = ys.length → inter (xs ++ [a]) (ys ++ [b]) = inter xs ys ++ [a, b]
  | [], [], _ => by
    rw [List.nil_append, List.nil_append, inter_cons, inter_cons, inter_nil]; rfl
  | [], y :: ys, h => by simp at h
  | x :: xs, [], h => by simp at h
  | x :: xs, y :: ys, h => by
    rw [List.cons_append, List.cons_append, inter_cons, inter_cons, inter_app2 xs ys (by simpa using h), inter_cons, inter_cons]
    rfl
theorem boF_app (rl rk : Int) (st : Bst) (xs ys : List (List Int)) : boF rl rk st (xs ++ ys) = boF rl rk (boF rl rk st xs) ys := by
  simp [boF, List.foldl_append]
instance : Inhabited Wc := ⟨⟨0, 0, []⟩⟩
/-- The frame of a word. -/
def twF (x : Wc) : List Int := frL x.l x.s x.zs
/-- What the first network carries, and the second one, of the first k words. -/
def twX (W : List Wc) (la : List Bool) : Nat → List (List Int)
  | 0 => []
  | k + 1 => twX W la k ++ [bif elAt la k then [] else twF (elAt W k)]
/-- What came over either. -/
def twC (W : List Wc) (la lb : List Bool) : Nat → List Wc
  | 0 => []
  | k + 1 => bif (elAt la k && elAt lb k) then twC W la lb k else twC W la lb k ++ [elAt W k]
/-- Whether any came. -/
def twB (la lb : List Bool) : Nat → Bool
  | 0 => false
  | k + 1 => bif (elAt la k && elAt lb k) then twB la lb k else true
/-- How many are lost on both, once one has come. -/
def twG (la lb : List Bool) : Nat → Int
  | 0 => 0
  | k + 1 => bif (elAt la k && elAt lb k) then (bif twB la lb k then twG la lb k + 1 else twG la lb k) else twG la lb k
/-- How many at the end are lost on both. -/
def twT (la lb : List Bool) : Nat → Nat
  | 0 => 0
  | k + 1 => bif (elAt la k && elAt lb k) then twT la lb k + 1 else 0
theorem twX_len (W : List Wc) (la : List Bool) : ∀ k, (twX W la k).length = k
  | 0 => rfl
  | k + 1 => by rw [twX, List.length_append, twX_len W la k]; rfl
theorem twT_le (la lb : List Bool) : ∀ k, twT la lb k ≤ k
  | 0 => Nat.le_refl _
  | k + 1 => by
    have := twT_le la lb k
    rw [twT]
    cases (elAt la k && elAt lb k)
    · exact Nat.zero_le _
    · show twT la lb k + 1 ≤ k + 1
      omega
theorem twG_bd (la lb : List Bool) : ∀ k, 0 ≤ twG la lb k ∧ twG la lb k ≤ (k : Int)
  | 0 => ⟨Int.le_refl _, Int.le_refl _⟩
  | k + 1 => by
    have := twG_bd la lb k
    rw [twG]
    cases (elAt la k && elAt lb k)
    · simp only [cond_false]; omega
    · cases twB la lb k <;> simp only [cond_false, cond_true] <;> omega
theorem twC_len (W : List Wc) (la lb : List Bool) : ∀ k, (twC W la lb k).length ≤ k
  | 0 => Nat.le_refl _
  | k + 1 => by
    have := twC_len W la lb k
    rw [twC]
    cases (elAt la k && elAt lb k)
    · simp only [cond_false, List.length_append, List.length_cons, List.length_nil]; omega
    · simp only [cond_true]; omega
theorem twG_no {la lb : List Bool} : ∀ {k}, twB la lb k = false → twG la lb k = 0
  | 0, _ => rfl
  | k + 1, h => by
    rw [twB] at h
    rw [twG]
    cases q : (elAt la k && elAt lb k)
    · rw [q] at h; cases h
    · rw [q] at h
      have h : twB la lb k = false := h
      rw [h]
      exact twG_no h
/-- Words of one link in order. -/
structure TwL (s0 : Int) (n : Nat) (W : List Wc) : Prop where
  len : W.length = n
  l : ∀ k, k < n → (elAt W k).l = 5
  s : ∀ k, k < n → (elAt W k).s = (s0 + (k : Int)) % 256
  z : ∀ k, k < n → (elAt W k).zs.length = 2
theorem TwL.ok {s0 : Int} {n k : Nat} {W : List Wc} (h : TwL s0 n W) (hk : k < n) : wdB (elAt W k).l (elAt W k).s (elAt W k).zs.length = true := by
  rw [h.l k hk, h.s k hk, h.z k hk]
  have : 0 ≤ (s0 + (k : Int)) % 256 ∧ (s0 + (k : Int)) % 256 < 256 := ⟨Int.emod_nonneg _ (by omega), Int.emod_lt_of_pos _ (by omega)⟩
  simp only [wdB, Bool.and_eq_true, decide_eq_true_eq]
  exact ⟨⟨by decide, by rw [inB]; exact decide_eq_true (by omega)⟩, by omega⟩
theorem gtC_nil : gtC [] = 1 := rfl
theorem bo_lost (rl rk : Int) (st : Bst) : boStep rl rk st [] = st := bo_bad (by rw [gtC_nil]; omega)
theorem bo_fresh {st : Bst} {x : Wc} {t : Int} (hx : wdB x.l x.s x.zs.length = true) (hl : x.l = 5) (hr : rvB 5 st.n 50 = true) (ht : acD st.n x.s = t) (h50 : t < 50) : boStep 5 50 st (twF x) = ⟨(x.s + 1) % 256, st.m + t, st.t ++ [x]⟩ := by
  obtain ⟨c, l, s, d⟩ := fr_back hx
  show boStep 5 50 st (frL x.l x.s x.zs) = _
  have hb : acB 5 st.n 50 (gtL (frL x.l x.s x.zs)) (gtS (frL x.l x.s x.zs)) (gtD (frL x.l x.s x.zs)).length = true := by
    show acB 5 st.n 50 (gtL (frL x.l x.s x.zs)) (gtS (frL x.l x.s x.zs)) (gtD (frL x.l x.s x.zs)).length = true
    rw [l, s, d, acB, hr, hx, ht, hl]
    simp [h50]
  rw [bo_yes c hb, (ac_yes hb).1, (ac_yes hb).2, l, s, d, ht]
theorem bo_again {st : Bst} {x : Wc} (hx : wdB x.l x.s x.zs.length = true) (hn : st.n = (x.s + 1) % 256) : boStep 5 50 st (twF x) = st := by
  obtain ⟨c, l, s, d⟩ := fr_back hx
  have hs := (wdB_facts hx).2.1
  refine bo_no c ?_
  show acB 5 st.n 50 (gtL (frL x.l x.s x.zs)) (gtS (frL x.l x.s x.zs)) (gtD (frL x.l x.s x.zs)).length = false
  rw [l, s, d, acB]
  have h : ¬ acD st.n x.s < 50 := by rw [acD, if_pos (by omega), hn]; omega
  simp [h]
/-- What both networks together tell behind k words. -/
structure TwI (s0 : Int) (W : List Wc) (la lb : List Bool) (k : Nat) (r : Bst) : Prop where
  t : r.t = twC W la lb k
  no : twB la lb k = false → r.n = -1 ∧ r.m = 0 ∧ twC W la lb k = []
  yes : twB la lb k = true → r.n = (s0 + (k : Int) - (twT la lb k : Int)) % 256 ∧ r.m = twG la lb k - (twT la lb k : Int) ∧ 0 < (twC W la lb k).length ∧ elAt (twC W la lb k) ((twC W la lb k).length - 1) = elAt W (k - 1 - twT la lb k) ∧ twT la lb k < k
theorem tw_inv {s0 : Int} {n : Nat} {W : List Wc} (la lb : List Bool) (h : TwL s0 n W) (h0 : 0 ≤ s0) (hn : n ≤ 40) : ∀ k, k ≤ n → TwI s0 W la lb k (boF 5 50 ⟨-1, 0, []⟩ (inter (twX W la k) (twX W lb k)))
  | 0, _ => by
    show TwI s0 W la lb 0 (boF 5 50 ⟨-1, 0, []⟩ (inter [] []))
    rw [inter_nil]
    exact ⟨rfl, fun _ => ⟨rfl, rfl, rfl⟩, fun h => by cases h⟩
  | k + 1, hk => by
    have ih := tw_inv la lb h h0 hn k (by omega)
    rw [twX, twX, inter_app2 _ _ (by rw [twX_len, twX_len]), boF_app]
    generalize boF 5 50 ⟨-1, 0, []⟩ (inter (twX W la k) (twX W lb k)) = r at ih
    have hw := h.ok (k := k) (by omega)
    have hl := h.l k (by omega)
    have hs := h.s k (by omega)
    have hT := twT_le la lb k
    show TwI s0 W la lb (k + 1) (boStep 5 50 (boStep 5 50 r _) _)
    cases ha : elAt la k <;> cases hb : elAt lb k
    rotate_right 1
    · simp only [cond_true]
      rw [bo_lost, bo_lost]
      refine ⟨by rw [twC, ha, hb]; exact ih.t, fun q => ?_, fun q => ?_⟩
      · rw [twB, ha, hb] at q
        obtain ⟨a, b, c⟩ := ih.no q
        refine ⟨a, b, ?_⟩
        rw [twC, ha, hb]; exact c
      · rw [twB, ha, hb] at q
        have q : twB la lb k = true := q
        obtain ⟨a, b, c, d, e⟩ := ih.yes q
        have e1 : twT la lb (k + 1) = twT la lb k + 1 := by rw [twT, ha, hb]; rfl
        have e2 : twG la lb (k + 1) = twG la lb k + 1 := by rw [twG, ha, hb, q]; rfl
        have e3 : twC W la lb (k + 1) = twC W la lb k := by rw [twC, ha, hb]; rfl
        rw [e1, e2, e3]
        refine ⟨by rw [a]; congr 1; omega, by rw [b]; omega, c, by rw [d]; congr 1; omega, by omega⟩
    all_goals
      have e1 : twT la lb (k + 1) = 0 := by rw [twT, ha, hb]; rfl
      have e2 : twG la lb (k + 1) = twG la lb k := by rw [twG, ha, hb]; rfl
      have e3 : twC W la lb (k + 1) = twC W la lb k ++ [elAt W k] := by rw [twC, ha, hb]; rfl
      have e4 : twB la lb (k + 1) = true := by rw [twB, ha, hb]; rfl
      have step : ∃ m, boStep 5 50 r (twF (elAt W k)) = ⟨((elAt W k).s + 1) % 256, m, r.t ++ [elAt W k]⟩ ∧ m = twG la lb k := by
        cases q : twB la lb k
        · obtain ⟨a, b, c⟩ := ih.no q
          refine ⟨_, bo_fresh hw hl (by rw [a]; decide) (t := 0) (by rw [a]; rfl) (by omega), ?_⟩
          rw [b]
          have : twG la lb k = 0 := twG_no q
          omega
        · obtain ⟨a, b, c, d, e⟩ := ih.yes q
          refine ⟨_, bo_fresh hw hl ?_ (t := (twT la lb k : Int)) ?_ (by omega), by rw [b]; omega⟩
          · rw [a]
            have : 0 ≤ (s0 + (k : Int) - (twT la lb k : Int)) % 256 ∧ (s0 + (k : Int) - (twT la lb k : Int)) % 256 < 256 := ⟨Int.emod_nonneg _ (by omega), Int.emod_lt_of_pos _ (by omega)⟩
            simp only [rvB, Bool.and_eq_true]
            exact ⟨⟨by decide, by rw [inB]; exact decide_eq_true (by omega)⟩, by decide⟩
          · rw [hs, acD, if_pos (by rw [a]; exact Int.emod_nonneg _ (by omega)), a]
            omega
      obtain ⟨m, st, hm⟩ := step
      have done : TwI s0 W la lb (k + 1) ⟨((elAt W k).s + 1) % 256, m, r.t ++ [elAt W k]⟩ := by
        refine ⟨by rw [e3, ih.t], (fun q => by rw [e4] at q; cases q), fun _ => ?_⟩
        rw [e1, e2, e3]
        refine ⟨?_, by show m = _; rw [hm]; omega, by simp, ?_, by omega⟩
        · show ((elAt W k).s + 1) % 256 = _
          rw [hs]; omega
        · rw [List.length_append]
          show elAt (twC W la lb k ++ [elAt W k]) ((twC W la lb k).length + 1 - 1) = _
          rw [Nat.add_sub_cancel, (elAt_app _ _).2]
          congr 1
      simp only [cond_true, cond_false]
    · rw [st, bo_again hw rfl]; exact done
    · rw [st, bo_lost]; exact done
    · rw [bo_lost, st]; exact done
/-- The last words that are lost on both: at least so many. -/
theorem twT_run {la lb : List Bool} : ∀ (j k : Nat), j ≤ k → (∀ i, k - j ≤ i → i < k → (elAt la i && elAt lb i) = true) → (j = k ∨ (elAt la (k - 1 - j) && elAt lb (k - 1 - j)) = false) → twT la lb k = j
  | j, 0, h, _, _ => by
    obtain rfl : j = 0 := by omega
    rfl
  | 0, k + 1, _, _, h => by
    rcases h with h | h
    · omega
    · rw [twT]
      rw [show k + 1 - 1 - 0 = k by omega] at h
      rw [h]; rfl
  | j + 1, k + 1, hj, ha, hb => by
    rw [twT, ha k (by omega) (by omega)]
    show twT la lb k + 1 = j + 1
    rw [twT_run j k (by omega) (fun i h1 h2 => ha i (by omega) (by omega)) ?_]
    rcases hb with h | h
    · exact .inl (by omega)
    · right
      rw [show k + 1 - 1 - (j + 1) = k - 1 - j by omega] at h
      exact h

end Go.Proofs.Yticdccdkjepifaa
