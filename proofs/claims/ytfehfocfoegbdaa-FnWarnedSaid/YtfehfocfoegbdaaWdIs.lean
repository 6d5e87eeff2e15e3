/-
  Rules as they are drawn: what is plain of them, and how they lie in memory. No condition.
-/
import Derived.Test.YtfehfocfoegbdaaMWdFacts
import Derived.Test.YtfehfocfoegbdaaMDraw
import Derived.Test.YtfehfocfoegbdaaMMarkI
import Derived.Test.YtfehfocfoegbdaaMStrTo
import Derived.Test.YtfehfocfoegbdaaMWrTo
namespace Go.Proofs.Ytfehfocfoegbdaa
open Go Go.RowKit

/-- The names that are drawn of. -/
def nmW : List ByteArray := [⟨#[97, 105, 114]⟩, ⟨#[100, 111, 111, 114]⟩, ⟨#[102, 105, 114, 101]⟩, ⟨#[102, 117, 101, 108]⟩, ⟨#[103, 101, 97, 114]⟩, ⟨#[105, 99, 101]⟩, ⟨#[111, 105, 108]⟩]
theorem nmW_rise : riseS nmW = true := by decide +kernel
theorem nmW_name {i : Nat} (hi : i < 7) : nameB (elAt nmW i) = true := (by decide +kernel : ∀ i, i < 7 → nameB (elAt nmW i) = true) i hi
def nobody : ByteArray := ⟨#[110, 111, 98, 111, 100, 121]⟩
theorem nmW_no {i : Nat} (hi : i < 7) : ¬ elAt nmW i = nobody := (by decide +kernel : ∀ i, i < 7 → ¬ elAt nmW i = nobody) i hi
/-- A rule, where its phases lie. -/
structure Wh where
  p : Wr
  a : Option Addr
  c : Nat
instance : Inhabited Wh := ⟨⟨default, none, 0⟩⟩
def whC (x : Wh) : Nat → Value
  | 0 => .string x.p.n
  | 1 => .int .i64 x.p.r
  | 2 => .slice x.a x.p.q.length x.c
  | 3 => .bool x.p.l
  | _ => .string x.p.d
/-- Rules behind k names, none of which needs another one yet. -/
structure WdI (hs : List Wh) (k : Nat) : Prop where
  s : (hs.map (·.p.n)).Sublist (nmW.take k)
  r : ∀ h ∈ hs, (1 ≤ h.p.r ∧ h.p.r ≤ 3) ∧ riseB h.p.q = true ∧ allB h.p.q 0 9 = true
  d : ∀ h ∈ hs, h.p.d = ⟨#[]⟩
theorem WdI.nil : WdI [] 0 := ⟨List.Sublist.refl _, fun h hh => (by simp at hh), fun h hh => (by simp at hh)⟩
theorem nmW_take {k : Nat} (hk : k < 7) : nmW.take (k + 1) = nmW.take k ++ [elAt nmW k] := take_at (by simpa [nmW] using hk)
theorem WdI.skip {hs : List Wh} {k : Nat} (h : WdI hs k) (hk : k < 7) : WdI hs (k + 1) := ⟨by rw [nmW_take hk]; exact h.s.trans (List.sublist_append_left _ _), h.r, h.d⟩
theorem WdI.push {hs : List Wh} {k : Nat} {x : Wh} (h : WdI hs k) (hk : k < 7) (hn : x.p.n = elAt nmW k) (hr : (1 ≤ x.p.r ∧ x.p.r ≤ 3) ∧ riseB x.p.q = true ∧ allB x.p.q 0 9 = true) (hd : x.p.d = ⟨#[]⟩) : WdI (hs ++ [x]) (k + 1) := by
  refine ⟨?_, fun y hy => ?_, fun y hy => ?_⟩
  · rw [nmW_take hk, List.map_append, ← hn]
    exact List.Sublist.append h.s (List.Sublist.refl _)
  · rcases List.mem_append.1 hy with hy | hy
    · exact h.r y hy
    · rw [List.mem_singleton] at hy; rw [hy]; exact hr
  · rcases List.mem_append.1 hy with hy | hy
    · exact h.d y hy
    · rw [List.mem_singleton] at hy; rw [hy]; exact hd
theorem WdI.len {hs : List Wh} {k : Nat} (h : WdI hs k) : hs.length ≤ k := by
  have := h.s.length_le
  rw [List.length_map, List.length_take] at this
  omega
/-- Phases of which one more is drawn. -/
def QsI (qs : List Int) (j : Int) : Prop := riseB qs = true ∧ allB qs 0 9 = true ∧ ∀ i, i < qs.length → nth qs i < j
theorem nth_appE (Z : List Int) (a : Int) : (∀ j, j < Z.length → nth (Z ++ [a]) j = nth Z j) ∧ nth (Z ++ [a]) Z.length = a := nth_app Z a
theorem QsI.nil : QsI [] 0 := ⟨by decide, by decide, fun i hi => by simp at hi⟩
theorem QsI.skip {qs : List Int} {j : Int} (h : QsI qs j) : QsI qs (j + 1) := ⟨h.1, h.2.1, fun i hi => by have := h.2.2 i hi; omega⟩
theorem QsI.push {qs : List Int} {j : Int} (h : QsI qs j) (h0 : 0 ≤ j) (h9 : j ≤ 9) : QsI (qs ++ [j]) (j + 1) := by
  obtain ⟨e1, e2⟩ := nth_appE qs j
  refine ⟨decide_eq_true (fun i hi => ?_), decide_eq_true (fun i hi => ?_), fun i hi => ?_⟩
  · rw [List.length_append, List.length_singleton] at hi
    by_cases c : i + 1 < qs.length
    · have k := of_decide_eq_true h.1 i (by omega)
      rw [e1 i (by omega), e1 (i + 1) c]; exact k
    · rw [show i + 1 = qs.length by omega, e2, e1 i (by omega)]; exact h.2.2 i (by omega)
  · rw [List.length_append, List.length_singleton] at hi
    by_cases c : i < qs.length
    · have k := of_decide_eq_true h.2.1 i c
      rw [e1 i c]; exact k
    · rw [show i = qs.length by omega, e2]; exact decide_eq_true ⟨h0, h9⟩
  · rw [List.length_append, List.length_singleton] at hi
    by_cases c : i < qs.length
    · rw [e1 i c]; have := h.2.2 i c; omega
    · rw [show i = qs.length by omega, e2]; omega
/-- Rules of which some need the first one. -/
structure WdJ (hs : List Wh) : Prop where
  s : (hs.map (·.p.n)).Sublist nmW
  r : ∀ h ∈ hs, (1 ≤ h.p.r ∧ h.p.r ≤ 3) ∧ riseB h.p.q = true ∧ allB h.p.q 0 9 = true
  d0 : 0 < hs.length → (elAt hs 0).p.d = ⟨#[]⟩
  d : ∀ i, i < hs.length → (elAt hs i).p.d = ⟨#[]⟩ ∨ (1 ≤ i ∧ (elAt hs i).p.d = (elAt hs 0).p.n)
theorem WdI.j {hs : List Wh} (h : WdI hs 7) : WdJ hs := ⟨h.s, h.r, fun h0 => h.d _ (elAt_mem.2 ⟨0, h0, rfl⟩), fun i hi => .inl (h.d _ (elAt_mem.2 ⟨i, hi, rfl⟩))⟩
theorem WdJ.set {hs : List Wh} {i : Nat} (h : WdJ hs) (h1 : 1 ≤ i) (hi : i < hs.length) : WdJ (hs.set i ⟨{ (elAt hs i).p with d := (elAt hs 0).p.n }, (elAt hs i).a, (elAt hs i).c⟩) := by
  have e : ∀ j, elAt (hs.set i ⟨{ (elAt hs i).p with d := (elAt hs 0).p.n }, (elAt hs i).a, (elAt hs i).c⟩) j = if j = i then ⟨{ (elAt hs i).p with d := (elAt hs 0).p.n }, (elAt hs i).a, (elAt hs i).c⟩ else elAt hs j := fun j => elAt_set _ _ _ _ hi
  have hm : (hs.set i ⟨{ (elAt hs i).p with d := (elAt hs 0).p.n }, (elAt hs i).a, (elAt hs i).c⟩).map (·.p.n) = hs.map (·.p.n) := by
    apply List.ext_getElem
    · simp
    · intro j h1 h2
      simp only [List.getElem_map, List.getElem_set]
      split
      · rename_i c
        subst c
        simp [elAt, hi]
      · rfl
  refine ⟨by rw [hm]; exact h.s, fun x hx => ?_, fun h0 => ?_, fun j hj => ?_⟩
  · rcases List.mem_or_eq_of_mem_set hx with c | c
    · exact h.r x c
    · rw [c]; have q := h.r (elAt hs i) (elAt_mem.2 ⟨i, hi, rfl⟩); exact q
  · rw [e 0, if_neg (by omega)]; exact h.d0 (by omega)
  · rw [e j, e 0, if_neg (by omega : ¬ 0 = i)]
    by_cases c : j = i
    · rw [if_pos c]; exact .inr ⟨by omega, rfl⟩
    · rw [if_neg c]; rw [List.length_set] at hj; exact h.d j hj
/-- The rules are so. -/
theorem WdJ.so {hs : List Wh} (h : WdJ hs) : wrB (hs.map (·.p)) = true ∧ (hs.map (·.p)).length ≤ 7 ∧ (∀ p ∈ hs.map (·.p), ¬ p.n = nobody) ∧ ∀ p ∈ hs.map (·.p), wrFit p := by
  have el : ∀ i, i < hs.length → elAt (hs.map (·.p)) i = (elAt hs i).p := fun i hi => by simp [elAt, hi]
  have hl : (hs.map (·.p)).length ≤ 7 := by have := h.s.length_le; rw [List.length_map] at this ⊢; simpa [nmW] using this
  have hw : wrN (hs.map (·.p)) = hs.map (·.p.n) := by simp [wrN]
  have hr : riseS (wrN (hs.map (·.p))) = true := by rw [hw, rise_pair]; exact (rise_pair.1 nmW_rise).sublist h.s
  have hn : ∀ x ∈ hs, ∃ i, i < 7 ∧ x.p.n = elAt nmW i := fun x hx => by
    obtain ⟨i, hi, e⟩ := elAt_mem.1 (h.s.subset (List.mem_map.2 ⟨x, hx, rfl⟩))
    exact ⟨i, by simpa [nmW] using hi, e⟩
  refine ⟨wrB_yes (by omega) hr (fun i hi => ?_) (fun i hi => ?_), hl, fun p hp => ?_, fun p hp => ?_⟩
  · rw [List.length_map] at hi
    rw [el i hi]
    have hm := elAt_mem.2 ⟨i, hi, rfl⟩
    obtain ⟨q, hq, e⟩ := hn _ hm
    obtain ⟨h1, h2, h3⟩ := h.r _ hm
    rw [wrSo, e, nmW_name hq, h2, h3]
    simp [inB, h1]
  · rw [List.length_map] at hi
    rw [ndB, el i hi]
    rcases h.d i hi with c | ⟨c1, c2⟩
    · rw [c, sEq_self]; rfl
    · have h0 : 0 < hs.length := by omega
      have k := wfK_at hr (i := 0) (by rw [List.length_map]; exact h0)
      rw [el 0 h0] at k
      rw [c2, k, el 0 h0, h.d0 h0, sEq_self]
      simp [h0]
  · obtain ⟨x, hx, rfl⟩ := List.mem_map.1 hp
    obtain ⟨q, hq, e⟩ := hn x hx
    rw [e]; exact nmW_no hq
  · obtain ⟨x, hx, rfl⟩ := List.mem_map.1 hp
    obtain ⟨i, hi, rfl⟩ := elAt_mem.1 hx
    have z : ∀ q, q < 7 → (elAt nmW q).size ≤ 20 := fun q hq => (nameB_facts (nmW_name hq)).2
    obtain ⟨q, hq, e⟩ := hn _ hx
    refine ⟨by rw [e]; have := z q hq; omega, ?_⟩
    rcases h.d i hi with c | ⟨c1, c2⟩
    · rw [c]; decide
    · obtain ⟨q2, hq2, e2⟩ := hn _ (elAt_mem.2 ⟨0, (by omega : 0 < hs.length), rfl⟩)
      rw [c2, e2]; have := z q2 hq2; omega
theorem own_tyI {α : Type} [Inhabited α] {K : Nat} {cells : α → Nat → Value} {w : World} {base base' : Nat} {T : TypeId} {v v' : Value} {L : List Int} {ps : List α} (h : OwnI w base v L) (h' : OwnE K cells w base' T v' ps) (hT : 3 ≠ T) : ∀ g, v.ownBlock = some g → v'.ownBlock ≠ some g := by
  intro g hg hg'
  obtain ⟨xs, ho, _⟩ := h.own
  obtain ⟨ys, ho', _⟩ := h'.own
  rcases ho.2 with ⟨e, _⟩ | ⟨g1, c1, cur1, rfl, _, hb1, _⟩
  · rw [e] at hg; simp [Value.ownBlock] at hg
  rcases ho'.2 with ⟨e, _⟩ | ⟨g2, c2, cur2, rfl, _, hb2, _⟩
  · rw [e] at hg'; simp [Value.ownBlock] at hg'
  have e1 : g1 = g := Option.some.inj hg
  have e2 : g2 = g := Option.some.inj hg'
  rw [e1] at hb1
  rw [e2, hb1] at hb2
  simp only [Option.some.injEq, Obj.cells.injEq] at hb2
  exact hT hb2.2.1
/-- Rules in memory as they are drawn: the cursor, the names, the list, each one's phases. -/
structure WhS (w : World) (C gn : Nat) (a : Option Addr) (len cap g n c : Nat) (hs : List Wh) (W : World) : Prop where
  dr : Dr w C a len cap W
  inn : ∀ b off, a = some ⟨b, off, none⟩ → b < w.heap.size
  nm : Blk W gn (nmW.map Value.string)
  o : OwnE 5 whC W (C + 1) 48 (.slice (some ⟨g, 0, none⟩) n c) hs
  qd : ∀ i, i < hs.length → OwnI W (C + 1) (.slice (elAt hs i).a (elAt hs i).p.q.length (elAt hs i).c) (elAt hs i).p.q
  gg : g ≠ gn
  gC : C < gn
  l : hs.length = n
theorem WhS.below {w : World} {C gn : Nat} {a : Option Addr} {len cap g n c : Nat} {hs : List Wh} {W W' : World} (h : WhS w C gn a len cap g n c hs W) (k : Below W.heap.size W W') : WhS w C gn a len cap g n c hs W' := ⟨h.dr.below k, h.inn, h.nm.below k, h.o.below k, fun i hi => (h.qd i hi).below k, h.gg, h.gC, h.l⟩
theorem WhS.step {w : World} {C gn : Nat} {a : Option Addr} {len cap g n c : Nat} {hs : List Wh} {W W' : World} (h : WhS w C gn a len cap g n c hs W) (d : Dr w C a len cap W') (gr : W.grownBy W' (some C)) : WhS w C gn a len cap g n c hs W' := by
  have gC := h.gC
  exact ⟨d, h.inn, h.nm.apart gr (fun e => by have := Option.some.inj e; omega), h.o.far gr (fun q hq e => by have := (h.o.lies q hq).1; have := Option.some.inj e; omega), fun i hi => (h.qd i hi).far gr (fun q hq e => by have := ((h.qd i hi).lies q hq).1; have := Option.some.inj e; omega), h.gg, h.gC, h.l⟩
theorem WhS.dk {w : World} {C gn : Nat} {a : Option Addr} {len cap g n c : Nat} {hs : List Wh} {W W' : World} (h : WhS w C gn a len cap g n c hs W) (k : Dk w C a len cap W W') : WhS w C gn a len cap g n c hs W' := h.step k.d k.gr
theorem WhS.push {w : World} {C gn : Nat} {a : Option Addr} {len cap g n c g9 c9 : Nat} {hs : List Wh} {W W' : World} {x : Wh} (h : WhS w C gn a len cap g n c hs W) (hx : OwnI W (C + 1) (.slice x.a x.p.q.length x.c) x.p.q) (o9 : OwnE 5 whC W' (C + 1) 48 (.slice (some ⟨g9, 0, none⟩) (n + 1) c9) (hs ++ [x])) (gr : W.grownBy W' (some g)) (hg9 : some g = some g9 ∨ W.heap.size < g9) : WhS w C gn a len cap g9 (n + 1) c9 (hs ++ [x]) W' := by
  have hg := (h.o.lies g rfl).1
  have gg := h.gg
  have nl := h.nm.lt
  have x1 : ∀ {p : Nat}, some p = some g → (Value.slice (some ⟨g, 0, none⟩) n c).ownBlock = some p := fun e => by rw [e]; rfl
  refine ⟨h.dr.own gr (fun k hk => by have e : g = k := Option.some.inj hk; omega) h.inn, h.inn, h.nm.apart gr (fun e => by have := Option.some.inj e; omega), o9, fun i hi => ?_, ?_, h.gC, by simp [h.l]⟩
  · by_cases c : i < hs.length
    · rw [(elAt_app hs x).1 i c]; exact (h.qd i c).far gr (fun q hq e => own_tyI (h.qd i c) h.o (by decide) q hq (x1 e))
    · obtain rfl : i = hs.length := by simp at hi; omega
      rw [(elAt_app hs x).2]; exact hx.far gr (fun q hq e => own_tyI hx h.o (by decide) q hq (x1 e))
  · rcases hg9 with e | e
    · have e : g = g9 := Option.some.inj e
      omega
    · omega
/-- One of them needs the first one. -/
theorem WhS.set {w : World} {C gn : Nat} {a : Option Addr} {len cap g n c i : Nat} {hs : List Wh} {W : World} (h : WhS w C gn a len cap g n c hs W) (hi : i < n) (s : ByteArray) : WhS w C gn a len cap g n c (hs.set i ⟨{ (elAt hs i).p with d := s }, (elAt hs i).a, (elAt hs i).c⟩) (W.setCell ⟨g, i * 5 + 4, none⟩ (.string s)) := by
  have hl := h.l
  have hg := (h.o.lies g rfl).1
  have gg := h.gg
  have e : ∀ j, elAt (hs.set i ⟨{ (elAt hs i).p with d := s }, (elAt hs i).a, (elAt hs i).c⟩) j = if j = i then ⟨{ (elAt hs i).p with d := s }, (elAt hs i).a, (elAt hs i).c⟩ else elAt hs j := fun j => elAt_set _ _ _ _ (by omega)
  have gr : W.grownBy (W.setCell ⟨g, i * 5 + 4, none⟩ (.string s)) (some g) := grown_set (grown_refl W (some g)) _ _
  refine ⟨h.dr.own gr (fun k hk => by have e : g = k := Option.some.inj hk; omega) h.inn, h.inn, h.nm.other (by show g ≠ gn; exact gg) _, h.o.setOne hl i hi 4 (by omega) _ _ (fun p hp => ?_), fun j hj => ?_, gg, h.gC, by rw [List.length_set]; exact hl⟩
  · rcases (show p = 0 ∨ p = 1 ∨ p = 2 ∨ p = 3 ∨ p = 4 from by omega) with rfl | rfl | rfl | rfl | rfl <;> rfl
  · rw [List.length_set] at hj
    have k : OwnI (W.setCell ⟨g, i * 5 + 4, none⟩ (.string s)) (C + 1) (.slice (elAt hs j).a (elAt hs j).p.q.length (elAt hs j).c) (elAt hs j).p.q := (h.qd j hj).far gr (fun q hq e => own_tyI (h.qd j hj) h.o (by decide) q hq (by rw [e]; rfl))
    rw [e j]
    by_cases c : j = i
    · rw [if_pos c]; rw [c] at k; exact k
    · rw [if_neg c]; exact k
/-- What there is in the middle of a rule. -/
structure WhQ (w : World) (C : Nat) (a : Option Addr) (len cap : Nat) (U : World) (o : Option Nat) (W : World) : Prop where
  k : Dk w C a len cap U W
  b : ∀ P, o = some P → U.heap.size ≤ P ∧ Blk W P [.string ⟨#[]⟩, .int .i64 0, .slice none 0 0, .bool false, .string ⟨#[]⟩]
theorem WhQ.below {w : World} {C : Nat} {a : Option Addr} {len cap : Nat} {U : World} {o : Option Nat} {W W' : World} (h : WhQ w C a len cap U o W) (b : Below W.heap.size W W') : WhQ w C a len cap U o W' := ⟨h.k.below b, fun P e => ⟨(h.b P e).1, (h.b P e).2.below b⟩⟩
theorem WhQ.alloc {w : World} {C : Nat} {a : Option Addr} {len cap : Nat} {U : World} {W : World} (h : WhQ w C a len cap U none W) : WhQ w C a len cap U (some W.heap.size) (W.alloc (Obj.cells #[.string ⟨#[]⟩, .int .i64 0, .slice none 0 0, .bool false, .string ⟨#[]⟩] 48)) := ⟨h.k.below (bel1 _), fun P e => by have e : W.heap.size = P := Option.some.inj e; rw [← e]; exact ⟨h.k.g.size, Blk.new [.string ⟨#[]⟩, .int .i64 0, .slice none 0 0, .bool false, .string ⟨#[]⟩] _⟩⟩
theorem WhQ.call {w : World} {C : Nat} {a : Option Addr} {len cap : Nat} {U : World} {o : Option Nat} {W W' : World} (h : WhQ w C a len cap U o W) (gr : W.grownBy W' (some C)) (d : Dr w C a len cap W') : WhQ w C a len cap U o W' := ⟨h.k.call gr d, fun P e => ⟨(h.b P e).1, (h.b P e).2.apart gr (fun e2 => by have := Option.some.inj e2; have := (h.b P e).1; have := h.k.lo; omega)⟩⟩
theorem WhQ.cells {w : World} {C : Nat} {a : Option Addr} {len cap : Nat} {U : World} {P : Nat} {W : World} (h : WhQ w C a len cap U (some P) W) : (W.cell? ⟨P, 0, none⟩ = some (.string ⟨#[]⟩) ∧ W.cell? ⟨P, 1, none⟩ = some (.int .i64 0) ∧ W.cell? ⟨P, 2, none⟩ = some (.slice none 0 0) ∧ W.cell? ⟨P, 3, none⟩ = some (.bool false) ∧ W.cell? ⟨P, 4, none⟩ = some (.string ⟨#[]⟩)) ∧ (W.frozen? ⟨P, 0, none⟩ = false ∧ W.frozen? ⟨P, 1, none⟩ = false ∧ W.frozen? ⟨P, 2, none⟩ = false ∧ W.frozen? ⟨P, 3, none⟩ = false ∧ W.frozen? ⟨P, 4, none⟩ = false) := by
  have b := (h.b P rfl).2
  exact ⟨⟨b.c 0 (by simp), b.c 1 (by simp), b.c 2 (by simp), b.c 3 (by simp), b.c 4 (by simp)⟩, b.f 0 (by simp), b.f 1 (by simp), b.f 2 (by simp), b.f 3 (by simp), b.f 4 (by simp)⟩
theorem whBelow {w : World} {C : Nat} {a : Option Addr} {len cap : Nat} {U : World} {o : Option Nat} (n : Int) (W : World) (h : WhQ w C a len cap U o W) (hn : 1 ≤ n ∧ n ≤ 1000000) : Calls Try.prog 14 #[.pointer (some ⟨C, 0, none⟩), .int .i64 n] W fun e w' => ∃ x : Int, e = .returned (.int .i64 x) ∧ (0 ≤ x ∧ x < n) ∧ WhQ w C a len cap U o w' :=
  (drBelow n W h.k.d hn).mono fun _ _ ⟨x, e1, e2, d, g⟩ => ⟨x, e1, e2, h.call g d⟩
theorem whOnce {w : World} {C : Nat} {a : Option Addr} {len cap : Nat} {U : World} {o : Option Nat} (n : Int) (W : World) (h : WhQ w C a len cap U o W) (hn : 1 ≤ n ∧ n ≤ 1000000) : Calls Try.prog 15 #[.pointer (some ⟨C, 0, none⟩), .int .i64 n] W fun e w' => ∃ x : Bool, e = .returned (.bool x) ∧ WhQ w C a len cap U o w' :=
  (drOnce n W h.k.d hn).mono fun _ _ ⟨x, e1, d, g⟩ => ⟨x, e1, h.call g d⟩
/-- The rule's block, whole. -/
structure WhR (w : World) (C : Nat) (a : Option Addr) (len cap : Nat) (U : World) (P : Nat) (s : ByteArray) (r : Int) (qa : Option Addr) (m qc : Nat) (b : Bool) (qs : List Int) (W : World) : Prop where
  k : Dk w C a len cap U W
  p : Blk W P [.string s, .int .i64 r, .slice qa m qc, .bool b, .string ⟨#[]⟩]
  ge : U.heap.size ≤ P
  o : OwnI W U.heap.size (.slice qa m qc) qs
  ne : ∀ q, (Value.slice qa m qc).ownBlock = some q → q ≠ P
  l : qs.length = m
theorem WhQ.endA {w : World} {C : Nat} {a : Option Addr} {len cap : Nat} {U : World} {P : Nat} {W : World} {s : ByteArray} {r : Int} {b : Bool} (h : WhQ w C a len cap U (some P) W) : WhR w C a len cap U P s r none 0 0 b [] (((((W.setCell ⟨P, 0, none⟩ (.string s)).setCell ⟨P, 1, none⟩ (.int .i64 r)).setCell ⟨P, 2, none⟩ (.slice none 0 0)).setCell ⟨P, 3, none⟩ (.bool b)).setCell ⟨P, 4, none⟩ (.string ⟨#[]⟩)) := by
  obtain ⟨h1, h2⟩ := h.b P rfl
  have gr : W.grownBy (((((W.setCell ⟨P, 0, none⟩ (.string s)).setCell ⟨P, 1, none⟩ (.int .i64 r)).setCell ⟨P, 2, none⟩ (.slice none 0 0)).setCell ⟨P, 3, none⟩ (.bool b)).setCell ⟨P, 4, none⟩ (.string ⟨#[]⟩)) (some P) := grown_set (grown_set (grown_set (grown_set (grown_set (grown_refl W (some P)) _ _) _ _) _ _) _ _) _ _
  exact ⟨h.k.own gr h1, by have := ((((h2.set 0 (by simp) (.string s)).set 1 (by simp) (.int .i64 r)).set 2 (by simp) (.slice none 0 0)).set 3 (by simp) (.bool b)).set 4 (by simp) (.string ⟨#[]⟩); simpa using this, h1, ownI_nil _ _, (fun q hq => by cases hq), rfl⟩
theorem WhQ.endB {w : World} {C : Nat} {a : Option Addr} {len cap : Nat} {U W : World} {s : ByteArray} {r : Int} {b : Bool} (h : WhQ w C a len cap U none W) : WhR w C a len cap U W.heap.size s r none 0 0 b [] (W.alloc (Obj.cells #[.string s, .int .i64 r, .slice none 0 0, .bool b, .string ⟨#[]⟩] 48)) :=
  ⟨h.k.below (bel1 _), Blk.new [.string s, .int .i64 r, .slice none 0 0, .bool b, .string ⟨#[]⟩] _, h.k.g.size, ownI_nil _ _, (fun q hq => by cases hq), rfl⟩
theorem WhR.below {w : World} {C : Nat} {a : Option Addr} {len cap : Nat} {U : World} {P : Nat} {s : ByteArray} {r : Int} {qa : Option Addr} {m qc : Nat} {b : Bool} {qs : List Int} {W W' : World} (h : WhR w C a len cap U P s r qa m qc b qs W) (k : Below W.heap.size W W') : WhR w C a len cap U P s r qa m qc b qs W' := ⟨h.k.below k, h.p.below k, h.ge, h.o.below k, h.ne, h.l⟩
theorem WhR.call {w : World} {C : Nat} {a : Option Addr} {len cap : Nat} {U : World} {P : Nat} {s : ByteArray} {r : Int} {qa : Option Addr} {m qc : Nat} {b : Bool} {qs : List Int} {W W' : World} (h : WhR w C a len cap U P s r qa m qc b qs W) (gr : W.grownBy W' (some C)) (d : Dr w C a len cap W') : WhR w C a len cap U P s r qa m qc b qs W' := by
  have lo := h.k.lo
  have ge := h.ge
  exact ⟨h.k.call gr d, h.p.apart gr (fun e => by have := Option.some.inj e; omega), h.ge, h.o.far gr (fun q hq e => by have := (h.o.lies q hq).1; have := Option.some.inj e; omega), h.ne, h.l⟩
theorem WhR.push {w : World} {C : Nat} {a : Option Addr} {len cap : Nat} {U : World} {P : Nat} {s : ByteArray} {r x : Int} {qa : Option Addr} {m qc g9 c9 : Nat} {b : Bool} {qs : List Int} {W W' : World} (h : WhR w C a len cap U P s r qa m qc b qs W) (o9 : OwnI W' U.heap.size (.slice (some ⟨g9, 0, none⟩) (m + 1) c9) (qs ++ [x])) (gr : W.grownBy W' (Value.slice qa m qc).ownBlock) (hP : g9 ≠ P) : WhR w C a len cap U P s r (some ⟨g9, 0, none⟩) (m + 1) c9 b (qs ++ [x]) (W'.setCell ⟨P, 2, none⟩ (.slice (some ⟨g9, 0, none⟩) (m + 1) c9)) := by
  have hp := h.p.apart gr (fun e => h.ne P e.symm rfl)
  have g2 : W'.grownBy (W'.setCell ⟨P, 2, none⟩ (.slice (some ⟨g9, 0, none⟩) (m + 1) c9)) (some P) := grown_set (grown_refl W' (some P)) _ _
  have kk : Dk w C a len cap U W' := ⟨h.k.d.own gr (fun k hk => by have := (h.o.lies k hk).1; have := h.k.lo; omega) h.k.inn, h.k.g.growN gr (fun q hq => .inr (h.o.lies q hq).1), h.k.inn, h.k.lo⟩
  refine ⟨kk.own g2 h.ge, ?_, h.ge, o9.far g2 (fun q hq e => hP (by have e1 : g9 = q := Option.some.inj hq; have e2 := Option.some.inj e; omega)), fun q hq => by have e1 : g9 = q := Option.some.inj hq; omega, by simp [h.l]⟩
  have := hp.set 2 (by simp) (.slice (some ⟨g9, 0, none⟩) (m + 1) c9)
  simpa using this

end Go.Proofs.Ytfehfocfoegbdaa
