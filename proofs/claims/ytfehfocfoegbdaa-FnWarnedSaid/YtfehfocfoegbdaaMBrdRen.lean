/-
  A board renewed: what is active now, and of what was taken what still is. Nothing but the board's own sets is written.
  A name taken, in plain lists: what is latched and what is taken then; both rise, and have the names that they should. No program here.
-/
import Derived.Test.YtfehfocfoegbdaaMSetS
import Derived.Test.YtfehfocfoegbdaaBrdOps
import Derived.Test.YtfehfocfoegbdaaSetOf
import Derived.Test.YtfehfocfoegbdaaMWrNm

namespace Go.Proofs.Ytfehfocfoegbdaa
open Go.RowKit Go.Maps Go.WideMaps

/-- In both. -/
def andS (S T : ByteArray → Bool) : ByteArray → Bool := fun t => S t && T t
/-- Of S what is still to come, or in N. -/
def stS (S L N : ByteArray → Bool) : ByteArray → Bool := fun t => S t && (L t || N t)
/-- The taken ones so far. -/
structure Rnw (w wr : World) (b1 b2 b3 bn m n2 n3 cnt r : Nat) (S2 S3 N L : ByteArray → Bool) : Prop where
  r : RangeIs wr b3 r n3 (setF (stS S3 L N)) L cnt
  a : SetIs wr b1 m N
  l : SetIs wr b2 n2 S2
  n : SetIs wr bn m N
  bk : Blk wr w.heap.size [.map (some b1), .map (some b2), .map (some b3)]
  o : Only b1 (b3 + 1) w wr
theorem Rnw.below {w wr w' : World} {b1 b2 b3 bn m n2 n3 cnt r : Nat} {S2 S3 N L : ByteArray → Bool} (K : Rnw w wr b1 b2 b3 bn m n2 n3 cnt r S2 S3 N L) (b : Below wr.heap.size wr w') : Rnw w w' b1 b2 b3 bn m n2 n3 cnt r S2 S3 N L :=
  ⟨K.r.below b, K.a.below b, K.l.below b, K.n.below b, K.bk.below b, K.o.trans (Only.of_below b)⟩
set_option maxRecDepth 20000 in
set_option maxHeartbeats 2000000 in
theorem renew_any (b1 b2 b3 n1 n2 n3 bn m : Nat) (S1 S2 S3 N : ByteArray → Bool) (w : World) (hb : Brd w b1 b2 b3 n1 n2 n3 S1 S2 S3) (hn : SetIs w bn m N) (hbn : b3 < bn) (hm : m < 1000000) :
    Calls Try.prog 22 #[.agg #[.map (some b1), .map (some b2), .map (some b3)], .map (some bn)] w fun e w' => e = .returned (.tuple #[]) ∧ Brd w' b1 b2 b3 m n2 n3 N S2 (andS S3 N) ∧ SetIs w' bn m N ∧ Only b1 (b3 + 1) w w' := by
  have q1 := MapIs.lt hb.s1
  have q2 := MapIs.lt hb.s2
  have q3 := MapIs.lt hb.s3
  have qn := MapIs.lt hn
  have l1 := hb.l1
  have l2 := hb.l2
  obtain ⟨V, hV⟩ : ∃ V, V = w.alloc (Obj.cells #[.map (some b1), .map (some b2), .map (some b3)] 56) := ⟨_, rfl⟩
  have KV : Blk V w.heap.size [.map (some b1), .map (some b2), .map (some b3)] := by rw [hV]; exact Blk.new _ _
  have bV : Brd V b1 b2 b3 n1 n2 n3 S1 S2 S3 := by rw [hV]; exact hb.below (bel1 _)
  have nV : SetIs V bn m N := by rw [hV]; exact hn.below (bel1 _)
  have oV : Only b1 (b3 + 1) w V := by rw [hV]; exact Only.of_below (bel1 _)
  obtain ⟨U1, r1, s1, t1⟩ := bV.s1.clear
  have k1 := KV.turned t1 (by omega)
  have x2 := bV.s2.turned t1 (by omega)
  have x3 := bV.s3.turned t1 (by omega)
  have xn := nV.turned t1 (by omega)
  have o1 := oV.trans (Only.turned (lo := b1) (hi := b3 + 1) t1 (Nat.le_refl _) (by omega))
  have e0 : U1.cell? ⟨w.heap.size, 0, none⟩ = some (.map (some b1)) := k1.c 0 (by simp)
  rw [hV] at r1
  have HC := hide (copyS_any b1 bn 0 m (fun _ => false) N U1 s1 xn (by omega) (by omega))
  have H1 := hide (And.intro k1 (And.intro x2 (And.intro x3 (And.intro xn o1))))
  clear hb hn hV KV bV nV oV s1 t1 k1 x2 x3 xn o1
  go_enter Try.func22, Try.ntmps22
  go_wp2_with fail
  refine (unhide HC).mono ?_
  rintro e w2 ⟨rfl, s2, on2⟩
  obtain ⟨k1, x2, x3, xn, o1⟩ := unhide H1
  have hN : orS (fun _ => false) N = N := by funext t; simp [orS]
  rw [hN, Nat.zero_add] at s2
  have k2 := k1.only on2 (by omega)
  have y2 := x2.only on2 (by omega)
  have y3 := x3.only on2 (by omega)
  have yn := xn.only on2 (by omega)
  have o2 := o1.trans (on2.mono (lo' := b1) (hi' := b3 + 1) (Nat.le_refl _) (by omega))
  have e2 : w2.cell? ⟨w.heap.size, 2, none⟩ = some (.map (some b3)) := k2.c 2 (by simp)
  have H2 := hide (And.intro s2 (And.intro k2 (And.intro y2 (And.intro yn o2))))
  have HY3 := hide y3
  have z2 : w.heap.size < w2.heap.size := k2.lt
  clear k1 x2 x3 xn o1 s2 on2 hN k2 y2 y3 yn o2 H1 HC e0 r1
  go_wp2_with (first
    | (at_range; refine wpList_range_is rfl _ 54 rfl Try.underlying54 rfl (unhide HY3) ?_; intro w3 cnt3 hrg3 hc3 hg3 hs3)
    | go_in)
  go_frame
  have K3 : Hid (Rnw w w3 b1 b2 b3 bn m n2 n3 cnt3 w2.heap.size S2 S3 N S3) := hide (by
    obtain ⟨s2, k2, y2, yn, o2⟩ := unhide H2
    have b3' : Below w2.heap.size w2 w3 := (Below.refl w2.heap.size w2).grown hg3 (Nat.le_refl _) (fun j hj => by cases hj)
    have e1 : (fun s => (setF S3 s).isSome) = S3 := by funext s; exact setF_is S3 s
    have e2 : stS S3 S3 N = S3 := by funext t; unfold stS; cases S3 t <;> simp
    rw [e1] at hrg3
    exact ⟨by rw [e2]; exact hrg3, s2.below b3', y2.below b3', yn.below b3', k2.below b3', o2.trans (Only.of_below b3')⟩)
  clear hrg3 hc3 hg3 hs3 H2 HY3 e2
  go_loopw [] (fun wr => ∃ (L : ByteArray → Bool) (cnt : Nat), Hid (Rnw w wr b1 b2 b3 bn m n2 n3 cnt w2.heap.size S2 S3 N L)) (fun wr => wr.rangeLeft b3 w2.heap.size)
  case atStart => exact ⟨_, _, K3⟩
  case round =>
    clear K3
    obtain ⟨L, cnt, HK⟩ := hrel
    go_wp2_with (first
      | (at_next; refine wpList_next_is rfl _ rfl rfl (unhide HK).r ?_ ?_)
      | go_in)
    · intro hl
      have HE : Hid (Brd wr b1 b2 b3 m n2 n3 N S2 (andS S3 N)) := hide (by
        have e : stS S3 L N = andS S3 N := by funext t; unfold stS andS; rw [hl t]; simp
        have hr := (unhide HK).r.map
        rw [e] at hr
        exact ⟨(unhide HK).a, (unhide HK).l, hr, l1, l2⟩)
      have HNN := hide (unhide HK).n
      have HO := hide (unhide HK).o
      clear hl
      go_wp2_with fail
      go_end0
      exact ⟨rfl, unhide HE, unhide HNN, unhide HO⟩
    · intro s v w4 cnt4 hss hL hF hrg4 hlt4 hg4 hs4 hen
      have hr4 : w2.heap.size < wr.heap.size := (unhide HK).r.lt
      have K4 : Hid (Rnw w w4 b1 b2 b3 bn m n2 n3 cnt4 w2.heap.size S2 S3 N (fun t => L t && !decide (t = s)) ∨ True) := hide (.inr trivial)
      have KA : Hid (SetIs w4 b1 m N ∧ SetIs w4 b2 n2 S2 ∧ SetIs w4 bn m N ∧ Blk w4 w.heap.size [.map (some b1), .map (some b2), .map (some b3)] ∧ Only b1 (b3 + 1) w w4) := hide ⟨MapIs.kept (unhide HK).a hg4 (by simp; omega), MapIs.kept (unhide HK).l hg4 (by simp; omega), MapIs.kept (unhide HK).n hg4 (by simp; omega), (unhide HK).bk.apart hg4 (by simp; omega), (unhide HK).o.grown hg4 (fun q hq => by cases hq; exact .inl (by omega))⟩
      have HRG := hide hrg4
      have HSS := hide hss
      have HLS := hide hL
      have hS3 : S3 s = true := by
        have h1 := setF_is (stS S3 L N) s
        rw [hF] at h1
        have h1 : stS S3 L N s = true := h1.symm
        unfold stS at h1
        simp only [Bool.and_eq_true] at h1
        exact h1.1
      have HS3 := hide hS3
      clear K4 hrg4 hg4 hs4 hF hS3
      cases g : N s with
      | true =>
        have HC := hide (has_is bn m N s w4 (unhide KA).2.2.1 hss g)
        have HG := hide g
        clear g hL hss
        go_wp2_with fail
        refine (unhide HC).mono ?_
        rintro e w5 ⟨rfl, b5⟩
        have K5 : Hid (Rnw w w5 b1 b2 b3 bn m n2 n3 cnt4 w2.heap.size S2 S3 N (fun t => L t && !decide (t = s))) := hide (by
          have e : stS S3 L N = stS S3 (fun t => L t && !decide (t = s)) N := by
            funext t
            unfold stS
            by_cases c : t = s
            · subst c; rw [unhide HG]; simp
            · simp [c]
          have r := unhide HRG
          rw [e] at r
          obtain ⟨ka, kl, kn, kb, ko⟩ := unhide KA
          exact (Rnw.mk r ka kl kn kb ko).below b5)
        clear b5
        go_wp2_with fail
        go_roundw
        case rel => exact ⟨_, cnt4, K5⟩
        case measure => rw [(unhide K5).r.left_eq, (unhide HK).r.left_eq]; exact hlt4
      | false =>
        have HC := hide (has_is bn m N s w4 (unhide KA).2.2.1 hss g)
        have HG := hide g
        clear g hL hss
        go_wp2_with fail
        refine (unhide HC).mono ?_
        rintro e w5 ⟨rfl, b5⟩
        have KB : Hid (RangeIs w5 b3 w2.heap.size n3 (setF (stS S3 L N)) (fun t => L t && !decide (t = s)) cnt4 ∧ SetIs w5 b1 m N ∧ SetIs w5 b2 n2 S2 ∧ SetIs w5 bn m N ∧ Blk w5 w.heap.size [.map (some b1), .map (some b2), .map (some b3)] ∧ Only b1 (b3 + 1) w w5) := hide (by
          obtain ⟨ka, kl, kn, kb, ko⟩ := unhide KA
          exact ⟨(unhide HRG).below b5, ka.below b5, kl.below b5, kn.below b5, kb.below b5, ko.trans (Only.of_below b5)⟩)
        have f2 : w5.cell? ⟨w.heap.size, 2, none⟩ = some (.map (some b3)) := (unhide KB).2.2.2.2.1.c 2 (by simp)
        clear b5
        go_wp2_with (at_delete; refine wpList_delete_is rfl _ _ 54 rfl Try.underlying54 rfl (unhide KB).1 rfl (unhide HSS) ?_; intro w6 cnt6 hrg6 hle6 ht6)
        have K6 : Hid (Rnw w w6 b1 b2 b3 bn m n2 n3 cnt6 w2.heap.size S2 S3 N (fun t => L t && !decide (t = s))) := hide (by
          obtain ⟨_, ka, kl, kn, kb, ko⟩ := unhide KB
          have e : delF (setF (stS S3 L N)) s = setF (stS S3 (fun t => L t && !decide (t = s)) N) := by
            rw [setF_del]
            congr 1
            funext t
            unfold delS stS
            by_cases c : t = s
            · subst c; rw [unhide HG]; simp
            · simp [c]
          have e3 : (fun u => (L u && !decide (u = s)) && !decide (u = s)) = (fun u => L u && !decide (u = s)) := by
            funext u
            by_cases c : u = s <;> simp [c]
          rw [e, e3] at hrg6
          exact ⟨hrg6, ka.turned ht6 (by omega), kl.turned ht6 (by omega), kn.turned ht6 (by omega), kb.turned ht6 (by omega), ko.trans (Only.turned ht6 (by omega) (by omega))⟩)
        clear hrg6 ht6
        go_frame
        go_roundw
        case rel => exact ⟨_, cnt6, K6⟩
        case measure => rw [(unhide K6).r.left_eq, (unhide HK).r.left_eq]; omega

end Go.Proofs.Ytfehfocfoegbdaa

namespace Go.Proofs.Ytfehfocfoegbdaa
open Go

/-- Without a name. -/
def outS (ts : List ByteArray) (nm : ByteArray) : List ByteArray := ts.filter (fun x => !sEq x nm)
/-- A name put in its place. -/
def insS (ts : List ByteArray) (nm : ByteArray) : List ByteArray := ts.takeWhile (fun x => sLt x nm) ++ nm :: ts.dropWhile (fun x => sLt x nm)
/-- Taken then. -/
def tkN (z1 z3 : List ByteArray) (nm : ByteArray) : List ByteArray := if (hasB z1 nm && !hasB z3 nm) = true then insS z3 nm else z3
theorem outS_mem {ts : List ByteArray} {nm s : ByteArray} : s ∈ outS ts nm ↔ delS (hasB ts) nm s = true := by
  unfold outS delS
  rw [List.mem_filter, Bool.and_eq_true, hasB_mem, Bool.not_eq_true', Bool.not_eq_true', decide_eq_false_iff_not]
  constructor
  · rintro ⟨h1, h2⟩; exact ⟨(fun e => by rw [e, sEq_self] at h2; cases h2), h1⟩
  · rintro ⟨h1, h2⟩
    refine ⟨h2, ?_⟩
    cases e : sEq s nm with
    | false => rfl
    | true => exact absurd (sEq_eq.1 e) h1
theorem outS_rise {ts : List ByteArray} (nm : ByteArray) (h : riseS ts = true) : riseS (outS ts nm) = true := by
  rw [rise_pair] at h ⊢
  exact h.sublist List.filter_sublist
theorem insS_mem {ts : List ByteArray} {nm s : ByteArray} : s ∈ insS ts nm ↔ s = nm ∨ s ∈ ts := by
  unfold insS
  rw [List.mem_append, List.mem_cons]
  have e : s ∈ ts ↔ s ∈ ts.takeWhile (fun x => sLt x nm) ∨ s ∈ ts.dropWhile (fun x => sLt x nm) := by
    rw [← List.mem_append, List.takeWhile_append_dropWhile]
  rw [e]
  constructor
  · rintro (h | h | h)
    · exact .inr (.inl h)
    · exact .inl h
    · exact .inr (.inr h)
  · rintro (h | h | h)
    · exact .inr (.inl h)
    · exact .inl h
    · exact .inr (.inr h)
theorem sLt_tri {x y : ByteArray} (h1 : sLt x y = false) (h2 : ¬ x = y) : sLt y x = true := by
  have := sLt_or x y
  rw [h1] at this
  simp only [Bool.not_false, Bool.or_eq_true] at this
  rcases this with h | h
  · exact h
  · exact absurd (sEq_eq.1 h).symm h2
theorem insS_rise {ts : List ByteArray} {nm : ByteArray} (h : riseS ts = true) (hn : ¬ nm ∈ ts) : riseS (insS ts nm) = true := by
  rw [rise_pair] at h ⊢
  have hs := List.takeWhile_append_dropWhile (p := fun x => sLt x nm) (l := ts)
  unfold insS
  rw [← hs] at h
  rw [List.pairwise_append] at h ⊢
  obtain ⟨h1, h2, h3⟩ := h
  have ht : ∀ x ∈ ts.takeWhile (fun x => sLt x nm), sLt x nm = true := fun x hx => List.all_eq_true.1 (List.all_takeWhile (p := fun x => sLt x nm)) x hx
  have hd : ∀ x ∈ ts.dropWhile (fun x => sLt x nm), sLt nm x = true := by
    intro x hx
    cases e : ts.dropWhile (fun x => sLt x nm) with
    | nil => rw [e] at hx; cases hx
    | cons y l =>
      have hy : sLt y nm = false := by
        have := List.head?_dropWhile_not (p := fun x => sLt x nm) ts
        rw [e] at this
        simpa using this
      have hmy : y ∈ ts := by
        rw [← hs, List.mem_append, e]; exact .inr (List.mem_cons_self ..)
      have hyn : sLt nm y = true := sLt_tri hy (fun c => hn (c ▸ hmy))
      rw [e] at hx h2
      rcases List.mem_cons.1 hx with rfl | hx
      · exact hyn
      · exact sLt_trans hyn ((List.pairwise_cons.1 h2).1 x hx)
  refine ⟨h1, List.pairwise_cons.2 ⟨hd, h2⟩, fun a ha b hb => ?_⟩
  rcases List.mem_cons.1 hb with rfl | hb
  · exact ht a ha
  · exact h3 a ha b hb
theorem tkN_mem {z1 z3 : List ByteArray} {nm s : ByteArray} : s ∈ tkN z1 z3 nm ↔ tkS (hasB z1 nm) (hasB z3) nm s = true := by
  unfold tkN tkS
  cases e1 : hasB z1 nm with
  | false =>
    simp only [Bool.false_and, if_neg (show ¬ false = true by simp)]
    exact hasB_mem.symm
  | true =>
    rw [if_pos rfl]
    unfold addS
    rw [Bool.or_eq_true, decide_eq_true_eq, hasB_mem]
    cases e3 : hasB z3 nm with
    | false =>
      rw [if_pos (show (true && !false) = true from rfl)]; exact insS_mem
    | true =>
      rw [if_neg (by simp)]
      constructor
      · exact .inr
      · rintro (rfl | h)
        · exact hasB_mem.1 e3
        · exact h
theorem tkN_rise {z1 z3 : List ByteArray} {nm : ByteArray} (h : riseS z3 = true) : riseS (tkN z1 z3 nm) = true := by
  unfold tkN
  split
  · rename_i c
    simp only [Bool.and_eq_true, Bool.not_eq_true'] at c
    exact insS_rise h (fun k => by rw [hasB_mem.2 k] at c; cases c.2)
  · exact h
def tkB (rs : List Wr) (z1 z2 z3 : List ByteArray) (nm : ByteArray) : Bool := wrB rs && pnlB rs z1 z2 z3 && (hasB z2 nm || hasB z1 nm)
def tk2 (rs : List Wr) (z1 z2 z3 : List ByteArray) (nm : ByteArray) : List ByteArray := if tkB rs z1 z2 z3 nm = true then outS z2 nm else z2
def tk3 (rs : List Wr) (z1 z2 z3 : List ByteArray) (nm : ByteArray) : List ByteArray := if tkB rs z1 z2 z3 nm = true then tkN z1 z3 nm else z3
theorem tk_no {rs : List Wr} {z1 z2 z3 : List ByteArray} {nm : ByteArray} (h : tkB rs z1 z2 z3 nm = false) : tk2 rs z1 z2 z3 nm = z2 ∧ tk3 rs z1 z2 z3 nm = z3 := by simp [tk2, tk3, h]
theorem tk_yes {rs : List Wr} {z1 z2 z3 : List ByteArray} {nm : ByteArray} (h : tkB rs z1 z2 z3 nm = true) : tk2 rs z1 z2 z3 nm = outS z2 nm ∧ tk3 rs z1 z2 z3 nm = tkN z1 z3 nm := by simp [tk2, tk3, h]
theorem outS_len (ts : List ByteArray) (nm : ByteArray) : (outS ts nm).length ≤ ts.length := List.length_filter_le _ _
theorem outS_take {ts : List ByteArray} {nm : ByteArray} {i : Nat} (hi : i < ts.length) : outS (ts.take (i + 1)) nm = if sEq (elAt ts i) nm = true then outS (ts.take i) nm else outS (ts.take i) nm ++ [elAt ts i] := by
  have e : ts.take (i + 1) = ts.take i ++ [elAt ts i] := by
    unfold elAt
    rw [List.take_succ_eq_append_getElem hi]
    simp [hi]
  rw [e]
  unfold outS
  rw [List.filter_append]
  cases g : sEq (elAt ts i) nm with
  | true => simp [g]
  | false => simp [g]
theorem insS_len (ts : List ByteArray) (nm : ByteArray) : (insS ts nm).length = ts.length + 1 := by
  have := congrArg List.length (List.takeWhile_append_dropWhile (p := fun x => sLt x nm) (l := ts))
  rw [List.length_append] at this
  unfold insS
  simp only [List.length_append, List.length_cons]
  omega
theorem insS_at {ts : List ByteArray} {nm : ByteArray} {k : Nat} (hk : k ≤ ts.length) (h1 : ∀ j, j < k → sLt (elAt ts j) nm = true) (h2 : k = ts.length ∨ sLt (elAt ts k) nm = false) : insS ts nm = ts.take k ++ nm :: ts.drop k := by
  have hp : ∀ x ∈ ts.take k, sLt x nm = true := fun x hx => by
    obtain ⟨j, hj, rfl⟩ := List.getElem_of_mem hx
    have hj2 : j < k := by simp at hj; omega
    have := h1 j hj2
    simpa [elAt, show j < ts.length by omega] using this
  have e1 : ts.takeWhile (fun x => sLt x nm) = ts.take k := by
    conv => lhs; rw [← List.take_append_drop k ts]
    rw [List.takeWhile_append_of_pos hp]
    rcases h2 with h2 | h2
    · rw [h2]; simp
    · have hk2 : k < ts.length ∨ k = ts.length := by omega
      rcases hk2 with hk2 | hk2
      · rw [List.drop_eq_getElem_cons hk2]
        have h2' : sLt ts[k] nm = false := by simpa [elAt, hk2] using h2
        rw [List.takeWhile_cons_of_neg (by simp [h2']), List.append_nil]
      · rw [hk2]; simp
  have e2 : ts.dropWhile (fun x => sLt x nm) = ts.drop k := by
    conv => lhs; rw [← List.take_append_drop k ts]
    rw [List.dropWhile_append_of_pos hp]
    rcases h2 with h2 | h2
    · rw [h2]; simp
    · have hk2 : k < ts.length ∨ k = ts.length := by omega
      rcases hk2 with hk2 | hk2
      · rw [List.drop_eq_getElem_cons hk2]
        have h2' : sLt ts[k] nm = false := by simpa [elAt, hk2] using h2
        rw [List.dropWhile_cons_of_neg (by simp [h2'])]
      · rw [hk2]; simp
  unfold insS
  rw [e1, e2]

end Go.Proofs.Ytfehfocfoegbdaa
