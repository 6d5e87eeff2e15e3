/-
  Plain facts on warnings along updates: a panel stays one of names of rules; what is told is not quiet, not taken and is there or latched; what is taken of it. No program here.
  What there is between two updates of FnWarned: the panel now, in its block; where the next one lies. No condition.
-/
import Derived.Test.YtfehfocfoegbdaaMBrdLat
import Derived.Test.YtfehfocfoegbdaaMBrdRen
import Derived.Test.YtfehfocfoegbdaaPnTo
import Derived.Test.YtfehfocfoegbdaaMWhole
import Derived.Test.YtfehfocfoegbdaaMBlks

namespace Go.Proofs.Ytfehfocfoegbdaa
open Go

theorem nm_iff {rs : List Wr} {ts : List ByteArray} : nmB rs ts = true ↔ riseS ts = true ∧ ∀ x ∈ ts, ∃ p, p ∈ rs ∧ p.n = x := by
  constructor
  · intro h
    refine ⟨riseS_true (fun i hi => ?_), fun x hx => nm_mem h (hasB_mem.2 hx)⟩
    rcases (nm_facts h (i := i + 1) hi).2 with e | e
    · omega
    · exact e
  · rintro ⟨h1, h2⟩
    refine nmB_all (fun i hi => ?_)
    obtain ⟨p, hp, e⟩ := h2 (elAt ts i) (elAt_mem.2 ⟨i, hi, rfl⟩)
    obtain ⟨j, hj, rfl⟩ := elAt_mem.1 hp
    unfold nmAt
    rw [Bool.and_eq_true, decide_eq_true_eq, Bool.or_eq_true, decide_eq_true_eq]
    refine ⟨wfK_has hj e, ?_⟩
    by_cases c : i = 0
    · exact .inl c
    · right
      obtain ⟨q, rfl⟩ : ∃ q, i = q + 1 := ⟨i - 1, by omega⟩
      exact riseS_at h1 hi
/-- A panel whose names are those of rules. -/
structure WdP (rs : List Wr) (z1 z2 z3 : List ByteArray) : Prop where
  a : nmB rs z1 = true
  l : nmB rs z2 = true
  t : nmB rs z3 = true
theorem WdP.pnl {rs : List Wr} {z1 z2 z3 : List ByteArray} (h : WdP rs z1 z2 z3) : pnlB rs z1 z2 z3 = true := by simp [pnlB, h.a, h.l, h.t]
theorem nm_nil (rs : List Wr) : nmB rs [] = true := nmB_all (fun i hi => by simp at hi)
theorem WdP.nil (rs : List Wr) : WdP rs [] [] [] := ⟨nm_nil rs, nm_nil rs, nm_nil rs⟩
theorem WdP.len {rs : List Wr} {z1 z2 z3 : List ByteArray} (hw : wrB rs = true) (h : WdP rs z1 z2 z3) : z1.length ≤ 30 ∧ z2.length ≤ 30 ∧ z3.length ≤ 30 := by
  have := (wrB_facts hw).2
  have := nm_len hw h.a
  have := nm_len hw h.l
  have := nm_len hw h.t
  omega
theorem nm_size {rs : List Wr} {ts : List ByteArray} (hw : wrB rs = true) (h : nmB rs ts = true) {i : Nat} (hi : i < ts.length) : (elAt ts i).size ≤ 9223372036854775807 := by
  obtain ⟨p, hp, e⟩ := (nm_iff.1 h).2 _ (elAt_mem.2 ⟨i, hi, rfl⟩)
  have := (nameB_facts (wr_name hw hp)).2
  rw [e] at this
  omega
theorem inhK_mem {rs : List Wr} {ph : Int} {s : ByteArray} : ∀ k, k ≤ rs.length → s ∈ inhK rs ph k → ∃ p, p ∈ rs ∧ qtB p.q ph = true ∧ p.n = s
  | 0, _, h => by simp [inhK] at h
  | k + 1, hk, h => by
    rw [inhK] at h
    by_cases c : qtB (elAt rs k).q ph = true
    · rw [if_pos c] at h
      rcases List.mem_append.1 h with h | h
      · exact inhK_mem k (by omega) h
      · rw [List.mem_singleton] at h
        exact ⟨_, elAt_mem.2 ⟨k, by omega, rfl⟩, c, h.symm⟩
    · rw [if_neg c] at h
      exact inhK_mem k (by omega) h
theorem hasB_false {ts : List ByteArray} {s : ByteArray} (h : ¬ s ∈ ts) : hasB ts s = false := by
  cases e : hasB ts s
  · rfl
  · exact absurd (hasB_mem.1 e) h
theorem hasB_true {ts : List ByteArray} {s : ByteArray} (h : s ∈ ts) : hasB ts s = true := hasB_mem.2 h
/-- What an update tells. -/
def wdT (rs : List Wr) (z2 z3 act : List ByteArray) (ph : Int) : List ByteArray := tdR rs act z2 (tkK act z3 z3.length) ph 3
def wdL (rs : List Wr) (z2 z3 act : List ByteArray) (ph : Int) : List ByteArray := ltK rs act z2 (wdT rs z2 z3 act ph) rs.length
def wdK (z3 act : List ByteArray) : List ByteArray := tkK act z3 z3.length
theorem rank_all {rs : List Wr} (hw : wrB rs = true) : ∀ p ∈ rs, 1 ≤ p.r ∧ p.r ≤ 3 := fun p hp => by
  obtain ⟨i, hi, rfl⟩ := elAt_mem.1 hp
  exact wrR_facts hw hi
theorem told_mem {rs : List Wr} {z2 z3 act : List ByteArray} {ph : Int} (hw : wrB rs = true) {s : ByteArray} (h : s ∈ wdT rs z2 z3 act ph) : ∃ p, p ∈ rs ∧ tdP act z2 (wdK z3 act) ph p = true ∧ p.n = s := by
  unfold wdT at h
  rw [tdR_is] at h
  obtain ⟨p, hp, e⟩ := List.mem_map.1 h
  obtain ⟨h1, h2⟩ := (tlL_mem (rank_all hw)).1 hp
  exact ⟨p, h1, h2, e⟩
theorem td_parts {act z2 tk : List ByteArray} {ph : Int} {p : Wr} (h : tdP act z2 tk ph p = true) : (hasB act p.n = true ∨ hasB z2 p.n = true) ∧ hasB tk p.n = false ∧ qtB p.q ph = false := by
  unfold tdP at h
  simp only [Bool.and_eq_true, Bool.or_eq_true, Bool.not_eq_true'] at h
  exact ⟨h.1.1.1, h.1.1.2, h.1.2⟩
theorem loK_pos {rs : List Wr} (hw : wrB rs = true) {ts : List ByteArray} : ∀ k, 0 < k → k ≤ ts.length → (∀ x ∈ ts, ∃ p, p ∈ rs ∧ p.n = x) → 0 < loK rs ts k
  | k + 1, _, hk, h => by
    obtain ⟨p, hp, e⟩ := h (elAt ts k) (elAt_mem.2 ⟨k, by omega, rfl⟩)
    obtain ⟨j, hj, rfl⟩ := elAt_mem.1 hp
    have c := wfK_has hj e
    have b := (wrR_facts hw c).1
    rw [loK, if_pos c]
    have := Int.le_max_right (loK rs ts k) (elAt rs (wfK rs (elAt ts k))).r
    omega
/-- All that one update asks. -/
structure WdU (rs : List Wr) (z1 z2 z3 act : List ByteArray) (ph : Int) (L K T : List ByteArray) : Prop where
  pan : WdP rs act L K
  quiet : ∀ k, k < T.length → hasB (inhL rs ph) (elAt T k) = false
  taken : ∀ k, k < T.length → hasB K (elAt T k) = false
  there : ∀ k, k < T.length → (hasB act (elAt T k) || hasB z2 (elAt T k)) = true
  latch : ∀ k, k < z2.length → hasB L (elAt z2 k) = true
  keep : ∀ k, k < z3.length → hasB K (elAt z3 k) = hasB act (elAt z3 k)
  few : T.length ≤ 30
  lo : loB rs T = true
  loud : decide (0 < loR rs T) = decide (0 < (T.length : Int))
  size : ∀ k, k < T.length → (elAt T k).size ≤ 9223372036854775807
  take : 0 < T.length → tkB rs act L K (elAt T 0) = true ∧ hasB (tk2 rs act L K (elAt T 0)) (elAt T 0) = false ∧ hasB (tk3 rs act L K (elAt T 0)) (elAt T 0) = hasB act (elAt T 0) ∧ WdP rs act (tk2 rs act L K (elAt T 0)) (tk3 rs act L K (elAt T 0))
theorem wd_up {rs : List Wr} {z1 z2 z3 act : List ByteArray} {ph : Int} (hw : wrB rs = true) (h7 : rs.length ≤ 7) (hp : WdP rs z1 z2 z3) (ha : nmB rs act = true) : WdU rs z1 z2 z3 act ph (wdL rs z2 z3 act ph) (wdK z3 act) (wdT rs z2 z3 act ph) := by
  have hT : ∀ k, k < (wdT rs z2 z3 act ph).length → ∃ p, p ∈ rs ∧ tdP act z2 (wdK z3 act) ph p = true ∧ p.n = elAt (wdT rs z2 z3 act ph) k := fun k hk => told_mem hw (elAt_mem.2 ⟨k, hk, rfl⟩)
  have hn : ∀ x ∈ wdT rs z2 z3 act ph, ∃ p, p ∈ rs ∧ p.n = x := fun x hx => by obtain ⟨p, a, _, c⟩ := told_mem hw hx; exact ⟨p, a, c⟩
  have hl : (wdT rs z2 z3 act ph).length ≤ 30 := by have := tdR_len rs act z2 (tkK act z3 z3.length) ph 3; unfold wdT; omega
  have hL : nmB rs (wdL rs z2 z3 act ph) = true := nm_iff.2 ⟨ltK_rise hw _ _ _, fun x hx => by
    unfold wdL at hx
    rw [ltK_all] at hx
    obtain ⟨p, hp, e⟩ := List.mem_map.1 hx
    exact ⟨p, (List.mem_filter.1 hp).1, e⟩⟩
  have hK : nmB rs (wdK z3 act) = true := nm_iff.2 ⟨tkK_rise (nm_iff.1 hp.t).1, fun x hx => by
    unfold wdK at hx
    rw [tkK_all] at hx
    exact (nm_iff.1 hp.t).2 x (List.mem_filter.1 hx).1⟩
  have hlat : ∀ s, s ∈ z2 → s ∈ wdL rs z2 z3 act ph := fun s hs => by
    obtain ⟨p, hp, e⟩ := (nm_iff.1 hp.l).2 s hs
    unfold wdL
    rw [ltK_all, List.mem_map]
    exact ⟨p, List.mem_filter.2 ⟨hp, by rw [e, hasB_true hs]; rfl⟩, e⟩
  have hlo : loB rs (wdT rs z2 z3 act ph) = true := by simp [loB, hw, hl]
  refine ⟨⟨ha, hL, hK⟩, fun k hk => ?_, fun k hk => ?_, fun k hk => ?_, fun k hk => hasB_true (hlat _ (elAt_mem.2 ⟨k, hk, rfl⟩)), fun k hk => ?_, hl, hlo, ?_, fun k hk => ?_, fun h0 => ?_⟩
  · obtain ⟨p, h1, h2, h3⟩ := hT k hk
    refine hasB_false (fun hm => ?_)
    unfold inhL at hm
    by_cases c : inhB rs ph = true
    · rw [if_pos c] at hm
      obtain ⟨q, q1, q2, q3⟩ := inhK_mem _ (Nat.le_refl _) hm
      have := wr_one hw q1 h1 (q3.trans h3.symm)
      subst this
      rw [(td_parts h2).2.2] at q2
      cases q2
    · rw [if_neg c] at hm; cases hm
  · obtain ⟨p, h1, h2, h3⟩ := hT k hk
    rw [← h3]; exact (td_parts h2).2.1
  · obtain ⟨p, h1, h2, h3⟩ := hT k hk
    rw [← h3, Bool.or_eq_true]; exact (td_parts h2).1
  · rw [wdK, tkK_has, andS]
    rw [hasB_true (elAt_mem.2 ⟨k, hk, rfl⟩), Bool.true_and]
  · rw [loR, if_pos hlo]
    by_cases c : 0 < (wdT rs z2 z3 act ph).length
    · rw [decide_eq_true (loK_pos hw _ c (Nat.le_refl _) hn), decide_eq_true (by omega)]
    · have e : (wdT rs z2 z3 act ph).length = 0 := by omega
      rw [e]; rfl
  · obtain ⟨p, h1, _, h3⟩ := hT k hk
    have := (nameB_facts (wr_name hw h1)).2
    rw [h3] at this
    omega
  · generalize hx : elAt (wdT rs z2 z3 act ph) 0 = x
    obtain ⟨p, h1, h2, h3⟩ := hT 0 h0
    rw [hx] at h3
    have hor : hasB act x = true ∨ hasB (wdL rs z2 z3 act ph) x = true := by
      rcases (td_parts h2).1 with c | c
      · left; rw [← h3]; exact c
      · right; rw [h3] at c; exact hasB_true (hlat _ (hasB_mem.1 c))
    have hnk : hasB (wdK z3 act) x = false := by rw [← h3]; exact (td_parts h2).2.1
    have hb : tkB rs act (wdL rs z2 z3 act ph) (wdK z3 act) x = true := by
      rw [tkB, hw, WdP.pnl ⟨ha, hL, hK⟩]
      rcases hor with c | c <;> simp [c]
    refine ⟨hb, ?_, ?_, ?_⟩
    · rw [(tk_yes hb).1]
      refine hasB_false (fun hm => ?_)
      have := outS_mem.1 hm
      simp [delS] at this
    · rw [(tk_yes hb).2, tkN, hnk]
      cases c : hasB act x
      · rw [if_neg (by simp)]; exact hnk
      · rw [if_pos (by simp)]; exact hasB_true (insS_mem.2 (.inl rfl))
    · rw [(tk_yes hb).1, (tk_yes hb).2]
      refine ⟨ha, nm_iff.2 ⟨outS_rise _ (nm_iff.1 hL).1, fun y hy => ?_⟩, nm_iff.2 ⟨tkN_rise (nm_iff.1 hK).1, fun y hy => ?_⟩⟩
      · exact (nm_iff.1 hL).2 y (List.mem_filter.1 hy).1
      · unfold tkN at hy
        by_cases c : (hasB act x && !hasB (wdK z3 act) x) = true
        · rw [if_pos c] at hy
          rcases insS_mem.1 hy with e | e
          · exact ⟨p, h1, h3.trans e.symm⟩
          · exact (nm_iff.1 hK).2 y e
        · rw [if_neg c] at hy
          exact (nm_iff.1 hK).2 y hy
/-- A name that is no rule's is never taken. -/
theorem wd_nobody {rs : List Wr} {z1 z2 z3 : List ByteArray} {s : ByteArray} (hp : WdP rs z1 z2 z3) (hs : ∀ p ∈ rs, ¬ p.n = s) : tkB rs z1 z2 z3 s = false := by
  have h1 : hasB z1 s = false := hasB_false (fun h => by obtain ⟨p, a, b⟩ := (nm_iff.1 hp.a).2 s h; exact hs p a b)
  have h2 : hasB z2 s = false := hasB_false (fun h => by obtain ⟨p, a, b⟩ := (nm_iff.1 hp.l).2 s h; exact hs p a b)
  simp [tkB, h1, h2]
/-- A sublist of the rules' names is a list of names of rules. -/
theorem nm_sub {rs : List Wr} (hw : wrB rs = true) {ts : List ByteArray} (h : ts.Sublist (wrN rs)) : nmB rs ts = true :=
  nm_iff.2 ⟨rise_pair.2 ((List.Pairwise.sublist h (by unfold wrN; rw [List.pairwise_map]; exact wr_pair (wrB_rise1 hw)))), fun x hx => by obtain ⟨p, a, b⟩ := List.mem_map.1 (h.subset hx); exact ⟨p, a, b⟩⟩

end Go.Proofs.Ytfehfocfoegbdaa

namespace Go.Proofs.Ytfehfocfoegbdaa
open Go Go.RowKit

structure WnS (B : World) (Q : Nat) (a1 a2 a3 : Option Addr) (l1 c1 l2 c2 l3 c3 : Nat) (z1 z2 z3 : List ByteArray) (W : World) : Prop where
  q : Blk W Q [.slice a1 l1 c1, .slice a2 l2 c2, .slice a3 l3 c3]
  i : PnIn W a1 a2 a3 l1 l2 l3 z1 z2 z3
  bel : Below B.heap.size B W
  ge : B.heap.size ≤ Q
theorem WnS.below {B : World} {Q : Nat} {a1 a2 a3 : Option Addr} {l1 c1 l2 c2 l3 c3 : Nat} {z1 z2 z3 : List ByteArray} {W W' : World} (h : WnS B Q a1 a2 a3 l1 c1 l2 c2 l3 c3 z1 z2 z3 W) (b : Below W.heap.size W W') : WnS B Q a1 a2 a3 l1 c1 l2 c2 l3 c3 z1 z2 z3 W' := ⟨h.q.below b, h.i.below b, h.bel.trans (b.mono h.bel.size), h.ge⟩
/-- The next panel: its block, its lists in memory of their own, a list beside. -/
structure NxP (wr : World) (P : Nat) (p1 p2 p3 : Option Addr) (m1 q1 m2 q2 m3 q3 : Nat) (y1 y2 y3 : List ByteArray) (v : Value) (ts : List ByteArray) (W : World) : Prop where
  b : Blk W P [.slice p1 m1 q1, .slice p2 m2 q2, .slice p3 m3 q3]
  o : PnOwn W wr.heap.size p1 p2 p3 m1 q1 m2 q2 m3 q3 y1 y2 y3
  t : OwnE 1 stC W wr.heap.size 9 v ts
  ge : wr.heap.size ≤ P
  bel : Below wr.heap.size wr W
theorem pxB {wr V w7 : World} {p1 p2 p3 : Option Addr} {m1 q1 m2 q2 m3 q3 : Nat} {y1 y2 y3 ts : List ByteArray} {v : Value} (hV : V = wr ∨ V = wr.drew) (o : PnOwn w7 V.heap.size p1 p2 p3 m1 q1 m2 q2 m3 q3 y1 y2 y3) (t : OwnE 1 stC w7 V.heap.size 9 v ts) (b : Below V.heap.size V w7) : NxP wr w7.heap.size p1 p2 p3 m1 q1 m2 q2 m3 q3 y1 y2 y3 v ts (w7.alloc (Obj.cells #[.slice p1 m1 q1, .slice p2 m2 q2, .slice p3 m3 q3] 31)) := by
  have hs : V.heap.size = wr.heap.size := by rcases hV with rfl | rfl <;> rfl
  have bV : Below wr.heap.size wr V := by
    rcases hV with rfl | rfl
    · exact Below.refl _ _
    · exact bel0d' 1
  rw [hs] at o t b
  have b1 := bV.trans b
  exact ⟨Blk.new [.slice p1 m1 q1, .slice p2 m2 q2, .slice p3 m3 q3] _, o.below (bel1 _), t.below (bel1 _), b1.size, b1.alloc b1.size _⟩
theorem pxA {wr V w7 : World} {p1 p2 p3 : Option Addr} {m1 q1 m2 q2 m3 q3 : Nat} {y1 y2 y3 ts : List ByteArray} {v : Value} (hV : V = wr.alloc (Obj.cells #[.slice none 0 0, .slice none 0 0, .slice none 0 0] 31) ∨ V = (wr.alloc (Obj.cells #[.slice none 0 0, .slice none 0 0, .slice none 0 0] 31)).drew) (o : PnOwn w7 V.heap.size p1 p2 p3 m1 q1 m2 q2 m3 q3 y1 y2 y3) (t : OwnE 1 stC w7 V.heap.size 9 v ts) (b : Below V.heap.size V w7) : NxP wr wr.heap.size p1 p2 p3 m1 q1 m2 q2 m3 q3 y1 y2 y3 v ts (((w7.setCell ⟨wr.heap.size, 0, none⟩ (.slice p1 m1 q1)).setCell ⟨wr.heap.size, 1, none⟩ (.slice p2 m2 q2)).setCell ⟨wr.heap.size, 2, none⟩ (.slice p3 m3 q3)) := by
  have hs : V.heap.size = wr.heap.size + 1 := by rcases hV with rfl | rfl <;> simp
  have bV : Below wr.heap.size wr V := by
    rcases hV with rfl | rfl
    · exact bel1 _
    · exact (bel1 (w := wr) _).trans (bel0d' 1)
  have kV : Blk V wr.heap.size [.slice none 0 0, .slice none 0 0, .slice none 0 0] := by
    rcases hV with rfl | rfl
    · exact Blk.new _ _
    · exact (Blk.new (w := wr) [.slice none 0 0, .slice none 0 0, .slice none 0 0] 31).below (bel0d 1)
  have k7 := kV.below b
  have x1 : (Value.slice p1 m1 q1).ownBlock ≠ some wr.heap.size := fun e => by have := (o.o1.lies _ e).1; omega
  have x2 : (Value.slice p2 m2 q2).ownBlock ≠ some wr.heap.size := fun e => by have := (o.o2.lies _ e).1; omega
  have x3 : (Value.slice p3 m3 q3).ownBlock ≠ some wr.heap.size := fun e => by have := (o.o3.lies _ e).1; omega
  have x4 : v.ownBlock ≠ some wr.heap.size := fun e => by have := (t.lies _ e).1; omega
  refine ⟨?_, ?_, ?_, Nat.le_refl _, ?_⟩
  · have := ((k7.set 0 (by simp) (.slice p1 m1 q1)).set 1 (by simp) (.slice p2 m2 q2)).set 2 (by simp) (.slice p3 m3 q3)
    simpa using this
  · exact (((o.set_other _ x1 x2 x3).set_other _ x1 x2 x3).set_other _ x1 x2 x3).mono (by omega)
  · exact (((t.set_other _ x4).set_other _ x4).set_other _ x4).mono (by omega)
  · exact (((bV.trans (b.mono (by omega))).setCell (p := ⟨wr.heap.size, 0, none⟩) (Nat.le_refl _) _).setCell (p := ⟨wr.heap.size, 1, none⟩) (Nat.le_refl _) _).setCell (p := ⟨wr.heap.size, 2, none⟩) (Nat.le_refl _) _
theorem ownE_nil0 {α : Type} [Inhabited α] {K : Nat} {cells : α → Nat → Value} (w : World) (base : Nat) (T : TypeId) : OwnE K cells w base T (.slice none 0 0) ([] : List α) := ⟨⟨[], ⟨by simp, .inl ⟨rfl, rfl⟩⟩, fun j hj => by simp at hj⟩⟩
theorem NxP.below {wr : World} {P : Nat} {p1 p2 p3 : Option Addr} {m1 q1 m2 q2 m3 q3 : Nat} {y1 y2 y3 ts : List ByteArray} {v : Value} {W W' : World} (h : NxP wr P p1 p2 p3 m1 q1 m2 q2 m3 q3 y1 y2 y3 v ts W) (k : Below W.heap.size W W') : NxP wr P p1 p2 p3 m1 q1 m2 q2 m3 q3 y1 y2 y3 v ts W' := ⟨h.b.below k, h.o.below k, h.t.below k, h.ge, h.bel.trans (k.mono h.bel.size)⟩
/-- The next panel becomes the one now. -/
theorem NxP.now {B wr : World} {Q P : Nat} {a1 a2 a3 p1 p2 p3 : Option Addr} {l1 c1 l2 c2 l3 c3 m1 q1 m2 q2 m3 q3 : Nat} {z1 z2 z3 y1 y2 y3 ts : List ByteArray} {v : Value} {W W' : World} (h : NxP wr P p1 p2 p3 m1 q1 m2 q2 m3 q3 y1 y2 y3 v ts W) (s : WnS B Q a1 a2 a3 l1 c1 l2 c2 l3 c3 z1 z2 z3 wr) (kb : Blk W' Q [.slice p1 m1 q1, .slice p2 m2 q2, .slice p3 m3 q3]) (gr : W.grownBy W' (some Q)) : WnS B Q p1 p2 p3 m1 q1 m2 q2 m3 q3 y1 y2 y3 W' ∧ OwnE 1 stC W' wr.heap.size 9 v ts := by
  have hQ := s.q.lt
  have ge := s.ge
  have f1 := h.o.o1.far gr (fun q hq e => by have e1 := Option.some.inj e; have e2 := (h.o.o1.lies q hq).1; omega)
  have f2 := h.o.o2.far gr (fun q hq e => by have e1 := Option.some.inj e; have e2 := (h.o.o2.lies q hq).1; omega)
  have f3 := h.o.o3.far gr (fun q hq e => by have e1 := Option.some.inj e; have e2 := (h.o.o3.lies q hq).1; omega)
  have f4 := h.t.far gr (fun q hq e => by have e1 := Option.some.inj e; have e2 := (h.t.lies q hq).1; omega)
  have bb := s.bel.trans (h.bel.mono s.bel.size)
  exact ⟨⟨kb, ⟨f1.row, f2.row, f3.row⟩, bb.grown gr bb.size (fun q hq => by have e1 : Q = q := Option.some.inj hq; omega), ge⟩, f4⟩
def WnT (B : World) (Q : Nat) (rs : List Wr) (N : Nat) (t7 : Value) (W : World) : Prop := ∃ (k : Nat) (a1 a2 a3 : Option Addr) (l1 c1 l2 c2 l3 c3 : Nat) (z1 z2 z3 : List ByteArray), t7 = .int .i64 (k : Int) ∧ k ≤ N ∧ Hid (WdP rs z1 z2 z3) ∧ Hid (WnS B Q a1 a2 a3 l1 c1 l2 c2 l3 c3 z1 z2 z3 W)
def WnC (wr : World) (mA mL mK mT : Nat) (act L K T : List ByteArray) (s8 s9 s10 : Value) (wc : World) : Prop := ∃ (P : Nat) (p1 p2 p3 p4 : Option Addr) (q1 q2 q3 q4 : Nat), s8 = .pointer (some ⟨P, 0, none⟩) ∧ s9 = .slice p4 mT q4 ∧ s10 = .bool true ∧ NxP wr P p1 p2 p3 mA q1 mL q2 mK q3 act L K (.slice p4 mT q4) T wc
def WnD (wr : World) (mA nL nK : Nat) (act L K : List ByteArray) (s18 s19 : Value) (wc : World) : Prop := ∃ (R : Nat) (r1 r2 r3 : Option Addr) (e1 e2 e3 : Nat), s18 = .pointer (some ⟨R, 0, none⟩) ∧ s19 = .bool true ∧ NxP wr R r1 r2 r3 mA e1 nL e2 nK e3 act L K (.slice none 0 0) [] wc

end Go.Proofs.Ytfehfocfoegbdaa
