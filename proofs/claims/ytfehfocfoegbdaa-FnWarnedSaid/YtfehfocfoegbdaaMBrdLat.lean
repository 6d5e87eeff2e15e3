/-
  The told rules that latch, put among the latched: the program's latch. Nothing but the board's own sets is written.
  What an update tells and keeps, by sets and by lists: the same. No program here.
-/
import Derived.Test.YtfehfocfoegbdaaBrdTold
import Derived.Test.YtfehfocfoegbdaaMBrdRen
import Derived.Test.YtfehfocfoegbdaaMAscS

namespace Go.Proofs.Ytfehfocfoegbdaa
open Go.RowKit Go.Maps Go.WideMaps

/-- Latched then. -/
def ltS (S : ByteArray → Bool) (rs : List Wr) : ByteArray → Bool := fun t => S t || rs.any (fun p => p.l && decide (t = p.n))
theorem ltS_nil (S : ByteArray → Bool) : ltS S [] = S := by funext t; simp [ltS]
theorem ltS_take {S : ByteArray → Bool} {ds : List Wq} {i : Nat} (hi : i < ds.length) : ltS S ((ds.take (i + 1)).map Prod.fst) = if (elAt ds i).1.l = true then addS (ltS S ((ds.take i).map Prod.fst)) (elAt ds i).1.n else ltS S ((ds.take i).map Prod.fst) := by
  have e : ds.take (i + 1) = ds.take i ++ [elAt ds i] := by
    rw [List.take_succ_eq_append_getElem hi]
    simp [elAt, hi]
  rw [e]
  cases g : (elAt ds i).1.l with
  | false => rw [if_neg (by simp)]; funext t; simp [ltS, g]
  | true =>
    rw [if_pos rfl]; funext t
    simp only [ltS, addS, List.map_append, List.any_append, List.map_cons, List.map_nil, List.any_cons, List.any_nil, g, Bool.true_and, Bool.or_false]
    cases decide (t = (elAt ds i).1.n) <;> simp
/-- The rounds. -/
structure Lch (w wr : World) (b1 b2 b3 n1 n2 n3 : Nat) (S1 S2 S3 : ByteArray → Bool) (base g m cp : Nat) (ds : List Wq) (i : Nat) : Prop where
  brd : Brd wr b1 b2 b3 n1 (n2 + i) n3 S1 (ltS S2 ((ds.take i).map Prod.fst)) S3
  o : OwnE 5 wqC wr base 48 (.slice (some ⟨g, 0, none⟩) m cp) ds
  kb : Blk wr w.heap.size [.map (some b1), .map (some b2), .map (some b3)]
  on : Only b1 (b3 + 1) w wr
theorem Lch.below {w wr w' : World} {b1 b2 b3 n1 n2 n3 : Nat} {S1 S2 S3 : ByteArray → Bool} {base g m cp : Nat} {ds : List Wq} {i : Nat} (k : Lch w wr b1 b2 b3 n1 n2 n3 S1 S2 S3 base g m cp ds i) (b : Below wr.heap.size wr w') : Lch w w' b1 b2 b3 n1 n2 n3 S1 S2 S3 base g m cp ds i :=
  ⟨k.brd.below b, k.o.below b, k.kb.below b, k.on.trans (Only.of_below b)⟩
theorem Lch.skip {w wr : World} {b1 b2 b3 n1 n2 n3 : Nat} {S1 S2 S3 : ByteArray → Bool} {base g m cp : Nat} {ds : List Wq} {i : Nat} (k : Lch w wr b1 b2 b3 n1 n2 n3 S1 S2 S3 base g m cp ds i) (hi : i < ds.length) (h : (elAt ds i).1.l = false) : Lch w wr b1 b2 b3 n1 n2 n3 S1 S2 S3 base g m cp ds (i + 1) := by
  refine ⟨⟨k.brd.s1, ?_, k.brd.s3, k.brd.l1, k.brd.l2⟩, k.o, k.kb, k.on⟩
  rw [ltS_take hi, h, if_neg (by simp)]
  exact MapIs.mono k.brd.s2 (by omega)
theorem Lch.add {w wr w' : World} {b1 b2 b3 n1 n2 n3 : Nat} {S1 S2 S3 : ByteArray → Bool} {base g m cp : Nat} {ds : List Wq} {i : Nat} (k : Lch w wr b1 b2 b3 n1 n2 n3 S1 S2 S3 base g m cp ds i) (hi : i < ds.length) (h : (elAt ds i).1.l = true) (hg : b3 < g) (h3 : b3 < w.heap.size) (s : SetIs w' b2 (n2 + i + 1) (addS (ltS S2 ((ds.take i).map Prod.fst)) (elAt ds i).1.n)) (t : wr.mapTurned w' b2) : Lch w w' b1 b2 b3 n1 n2 n3 S1 S2 S3 base g m cp ds (i + 1) := by
  have l1 := k.brd.l1
  have l2 := k.brd.l2
  refine ⟨⟨k.brd.s1.turned t (by omega), ?_, k.brd.s3.turned t (by omega), l1, l2⟩, k.o.far t.grown (fun q hq => by cases hq; simp; omega), k.kb.turned t (by omega), k.on.trans (Only.turned t (by omega) (by omega))⟩
  rw [ltS_take hi, h, if_pos rfl]
  exact s
set_option maxRecDepth 20000 in
set_option maxHeartbeats 2000000 in
theorem latch_any (b1 b2 b3 n1 n2 n3 : Nat) (S1 S2 S3 : ByteArray → Bool) (base g m cp : Nat) (ds : List Wq) (w : World) (hb : Brd w b1 b2 b3 n1 n2 n3 S1 S2 S3) (ho : OwnE 5 wqC w base 48 (.slice (some ⟨g, 0, none⟩) m cp) ds) (hl : ds.length = m) (hg : b3 < g) (hf : ∀ x ∈ ds, wrFit x.1) (hs : n2 + m < 1000000) :
    Calls Try.prog 24 #[.agg #[.map (some b1), .map (some b2), .map (some b3)], .slice (some ⟨g, 0, none⟩) m cp] w fun e w' => e = .returned (.tuple #[]) ∧ Brd w' b1 b2 b3 n1 (n2 + m) n3 S1 (ltS S2 (ds.map Prod.fst)) S3 ∧ OwnE 5 wqC w' base 48 (.slice (some ⟨g, 0, none⟩) m cp) ds ∧ Only b1 (b3 + 1) w w' := by
  have h3 := MapIs.lt hb.s3
  have HF := hide hf
  have KL : Hid (Lch w (w.alloc (Obj.cells #[.map (some b1), .map (some b2), .map (some b3)] 56)) b1 b2 b3 n1 n2 n3 S1 S2 S3 base g m cp ds 0) := hide ⟨by rw [List.take_zero, List.map_nil, ltS_nil, Nat.add_zero]; exact hb.below (bel1 _), ho.below (bel1 _), Blk.new _ _, Only.of_below (bel1 _)⟩
  clear hb ho hf
  go_enter Try.func24, Try.ntmps24
  go_wp2_with fail
  go_loopw [8] (fun s9 wr => ∃ (i : Nat), i ≤ m ∧ s9 = .int .i64 (i : Int) ∧ Hid (Lch w wr b1 b2 b3 n1 n2 n3 S1 S2 S3 base g m cp ds i)) (fun s9 _ => m - (intOf s9).toNat)
  case atStart => exact ⟨0, Nat.zero_le _, rfl, KL⟩
  case round =>
    clear KL
    obtain ⟨i, hi, rfl, HK⟩ := hrel
    by_cases hlt : i < m
    · have hlt' : i < ds.length := by omega
      have k0 : (0 : Int) ≤ (i : Int) := by omega
      have k1 : (i : Int) < (m : Int) := by omega
      have hmem : elAt ds i ∈ ds := elAt_mem.2 ⟨i, hlt', rfl⟩
      have hfi := unhide HF _ hmem
      have m0 : wr.cell? ⟨g, i * 5, none⟩ = some (wqC (elAt ds i) 0) := by have := ((unhide HK).o.here hl i hlt 0 (by omega)).1; exact this
      have m1 : wr.cell? ⟨g, i * 5 + 1, none⟩ = some (wqC (elAt ds i) 1) := by have := ((unhide HK).o.here hl i hlt 1 (by omega)).1; exact this
      have m2 : wr.cell? ⟨g, i * 5 + 2, none⟩ = some (wqC (elAt ds i) 2) := by have := ((unhide HK).o.here hl i hlt 2 (by omega)).1; exact this
      have m3 : wr.cell? ⟨g, i * 5 + 3, none⟩ = some (wqC (elAt ds i) 3) := by have := ((unhide HK).o.here hl i hlt 3 (by omega)).1; exact this
      have m4 : wr.cell? ⟨g, i * 5 + 4, none⟩ = some (wqC (elAt ds i) 4) := by have := ((unhide HK).o.here hl i hlt 4 (by omega)).1; exact this
      have HSK := fun (W : World) (k : Lch w W b1 b2 b3 n1 n2 n3 S1 S2 S3 base g m cp ds i) => k.skip hlt'
      have HAD := fun (W W' : World) (k : Lch w W b1 b2 b3 n1 n2 n3 S1 S2 S3 base g m cp ds i) h => k.add (w' := W') hlt' h hg h3
      obtain ⟨⟨⟨x, r, q, l, d⟩, ⟨qa, ql, qc⟩⟩, hp⟩ : ∃ p, elAt ds i = p := ⟨_, rfl⟩
      rw [hp] at m0 m1 m2 m3 m4 hfi HSK HAD
      simp only [wqC, wqE, List.getElem!_cons_zero, List.getElem!_cons_succ] at m0 m1 m2 m3 m4
      simp only at HSK HAD
      have HX := hide hfi.1
      have HSK := hide HSK
      have HAD := hide HAD
      have KB : Hid (Lch w (wr.alloc (Obj.cells #[.string x, .int .i64 r, .slice qa ql qc, .bool l, .string d] 48)) b1 b2 b3 n1 n2 n3 S1 S2 S3 base g m cp ds i) := hide ((unhide HK).below (bel1 _))
      have e1 : (wr.alloc (Obj.cells #[.string x, .int .i64 r, .slice qa ql qc, .bool l, .string d] 48)).cell? ⟨w.heap.size, 1, none⟩ = some (.map (some b2)) := (unhide KB).kb.c 1 (by simp)
      clear hmem hfi hp hlt'
      cases l with
      | false =>
        have K2 := hide (unhide HSK _ (unhide KB) rfl)
        go_wp2_with fail
        go_roundw
        case rel => exact ⟨i + 1, by omega, by go_num, K2⟩
        case measure => simp [intOf]; omega
      | true =>
        have HC := hide (add_any b2 (n2 + i) _ x _ (unhide KB).brd.s2 (unhide HX) (by omega))
        go_wp2_with (go_at_call 34; refine (unhide HC).mono ?_; rintro e w5 ⟨rfl, s5, t5⟩; have K2 := hide (unhide HAD _ _ (unhide KB) rfl s5 t5); clear s5 t5)
        go_roundw
        case rel => exact ⟨i + 1, by omega, by go_num, K2⟩
        case measure => simp [intOf]; omega
    · have k1 : ¬ (i : Int) < (m : Int) := by omega
      have hie : i = m := by omega
      subst hie
      have HI : Hid (ds.take i = ds) := hide (by rw [← hl]; simp)
      go_wp2_with fail
      go_end0
      have kb := (unhide HK).brd
      rw [unhide HI] at kb
      exact ⟨rfl, kb, (unhide HK).o, (unhide HK).on⟩

end Go.Proofs.Ytfehfocfoegbdaa

namespace Go.Proofs.Ytfehfocfoegbdaa
open Go

theorem take_at {α : Type} [Inhabited α] {l : List α} {k : Nat} (hk : k < l.length) : l.take (k + 1) = l.take k ++ [elAt l k] := by
  rw [List.take_succ_eq_append_getElem hk]
  simp [elAt, hk]
theorem tkK_is (act tk : List ByteArray) : ∀ k, k ≤ tk.length → tkK act tk k = (tk.take k).filter (hasB act)
  | 0, _ => rfl
  | k + 1, hk => by
    have ih := tkK_is act tk k (by omega)
    rw [take_at (by omega), List.filter_append, ← ih]
    rw [show tkK act tk (k + 1) = if hasB act (elAt tk k) = true then tkK act tk k ++ [elAt tk k] else tkK act tk k from rfl]
    cases g : hasB act (elAt tk k) <;> simp [g]
theorem tkK_all (act tk : List ByteArray) : tkK act tk tk.length = tk.filter (hasB act) := by rw [tkK_is act tk _ (Nat.le_refl _), List.take_length]
theorem tkK_rise {act tk : List ByteArray} (h : riseS tk = true) : riseS (tkK act tk tk.length) = true := by
  rw [tkK_all]; rw [rise_pair] at h ⊢; exact h.sublist List.filter_sublist
theorem tkK_mem {act tk : List ByteArray} {s : ByteArray} : s ∈ tkK act tk tk.length ↔ andS (hasB tk) (hasB act) s = true := by
  rw [tkK_all, List.mem_filter]
  unfold andS
  rw [Bool.and_eq_true, hasB_mem, hasB_mem]
theorem tkK_has (act tk : List ByteArray) : hasB (tkK act tk tk.length) = andS (hasB tk) (hasB act) := by
  funext s
  rw [Bool.eq_iff_iff, hasB_mem, tkK_mem]
/-- Whether a rule is told, as the document has it. -/
def tdP (act lat tkn : List ByteArray) (ph : Int) (p : Wr) : Bool := (hasB act p.n || hasB lat p.n) && !hasB tkn p.n && !qtB p.q ph && (sEq p.d ⟨#[]⟩ || !hasB act p.d)
theorem tdIn_is (rs : List Wr) (act lat tkn : List ByteArray) (ph rank : Int) (acc : List ByteArray) : ∀ k, k ≤ rs.length → tdIn rs act lat tkn ph rank acc k = acc ++ (((rs.take k).filter (fun p => tdP act lat tkn ph p && decide (p.r = rank))).map Wr.n)
  | 0, _ => by simp [tdIn]
  | k + 1, hk => by
    have ih := tdIn_is rs act lat tkn ph rank acc k (by omega)
    rw [take_at (by omega), List.filter_append, List.map_append, ← List.append_assoc, ← ih]
    rw [show tdIn rs act lat tkn ph rank acc (k + 1) = if tdB rs act lat tkn ph rank k = true then tdIn rs act lat tkn ph rank acc k ++ [(elAt rs k).n] else tdIn rs act lat tkn ph rank acc k from rfl]
    have e : tdB rs act lat tkn ph rank k = (tdP act lat tkn ph (elAt rs k) && decide ((elAt rs k).r = rank)) := by
      unfold tdB tdP
      simp only [Bool.and_comm, Bool.and_assoc]
    rw [e]
    cases g : (tdP act lat tkn ph (elAt rs k) && decide ((elAt rs k).r = rank)) <;> simp [g]
theorem tdR_is (rs : List Wr) (act lat tkn : List ByteArray) (ph : Int) : tdR rs act lat tkn ph 3 = wrN (tlL rs (tdP act lat tkn ph)) := by
  have h : ∀ m, tdR rs act lat tkn ph (m + 1) = tdR rs act lat tkn ph m ++ wrN (tlR rs (tdP act lat tkn ph) (3 - (m : Int))) := fun m => by
    show tdIn rs act lat tkn ph (3 - (m : Int)) (tdR rs act lat tkn ph m) rs.length = _
    rw [tdIn_is _ _ _ _ _ _ _ _ (Nat.le_refl _), List.take_length]; rfl
  rw [h 2, h 1, h 0]
  unfold tlL wrN
  simp [tdR]
theorem nm_mem {rs : List Wr} {ts : List ByteArray} (h : nmB rs ts = true) {s : ByteArray} (hs : hasB ts s = true) : ∃ p, p ∈ rs ∧ p.n = s := by
  obtain ⟨i, hi, rfl⟩ := elAt_mem.1 (hasB_mem.1 hs)
  have := (nm_facts h hi).1
  exact ⟨_, elAt_mem.2 ⟨_, this, rfl⟩, wfK_nm this⟩
theorem wr_name {rs : List Wr} (h : wrB rs = true) {p : Wr} (hp : p ∈ rs) : nameB p.n = true := by
  obtain ⟨i, hi, rfl⟩ := elAt_mem.1 hp
  have := (wrB_facts h).1 i hi
  unfold wrAtB at this
  simp only [Bool.and_eq_true] at this
  have k := this.1
  rw [wrSB_is] at k
  unfold wrSo at k
  simp only [Bool.and_eq_true] at k
  exact k.1.1.1.1
theorem no_empty {rs : List Wr} {ts : List ByteArray} (hw : wrB rs = true) (h : nmB rs ts = true) : hasB ts ⟨#[]⟩ = false := by
  cases e : hasB ts ⟨#[]⟩ with
  | false => rfl
  | true =>
    obtain ⟨p, hp, hn⟩ := nm_mem h e
    have := (nameB_facts (wr_name hw hp)).1
    rw [hn] at this
    exact absurd this (by decide)
theorem tl_same {rs : List Wr} {act lat tk : List ByteArray} {ph : Int} (hw : wrB rs = true) (ha : nmB rs act = true) : (fun p => tlB (hasB act) (hasB lat) (andS (hasB tk) (hasB act)) p ph) = tdP act lat (tkK act tk tk.length) ph := by
  funext p
  unfold tlB tdP
  rw [tkK_has]
  congr 1
  cases e : sEq p.d ⟨#[]⟩ with
  | false => rw [Bool.false_or]
  | true => rw [sEq_eq.1 e, no_empty hw ha]; rfl
theorem ltK_is (rs : List Wr) (act lat told : List ByteArray) : ∀ k, k ≤ rs.length → ltK rs act lat told k = ((rs.take k).filter (fun p => hasB lat p.n || (p.l && hasB act p.n && hasB told p.n))).map Wr.n
  | 0, _ => rfl
  | k + 1, hk => by
    have ih := ltK_is rs act lat told k (by omega)
    rw [take_at (by omega), List.filter_append, List.map_append, ← ih]
    rw [show ltK rs act lat told (k + 1) = if (hasB lat (elAt rs k).n || ((elAt rs k).l && hasB act (elAt rs k).n && hasB told (elAt rs k).n)) = true then ltK rs act lat told k ++ [(elAt rs k).n] else ltK rs act lat told k from rfl]
    cases g : (hasB lat (elAt rs k).n || ((elAt rs k).l && hasB act (elAt rs k).n && hasB told (elAt rs k).n)) <;> simp [g]
theorem ltK_all (rs : List Wr) (act lat told : List ByteArray) : ltK rs act lat told rs.length = (rs.filter (fun p => hasB lat p.n || (p.l && hasB act p.n && hasB told p.n))).map Wr.n := by rw [ltK_is _ _ _ _ _ (Nat.le_refl _), List.take_length]
theorem ltK_rise {rs : List Wr} (hw : wrB rs = true) (act lat told : List ByteArray) : riseS (ltK rs act lat told rs.length) = true := by
  rw [ltK_all, rise_pair, List.pairwise_map]
  exact (wr_pair (wrB_rise1 hw)).sublist List.filter_sublist
theorem wr_one {rs : List Wr} (hw : wrB rs = true) {p q : Wr} (hp : p ∈ rs) (hq : q ∈ rs) (e : p.n = q.n) : p = q := by
  obtain ⟨i, hi, rfl⟩ := elAt_mem.1 hp
  obtain ⟨j, hj, rfl⟩ := elAt_mem.1 hq
  rw [wrN_inj (wrB_rise1 hw) hj hi e]
theorem ltK_mem {rs : List Wr} {act lat tkn : List ByteArray} {ph : Int} (hw : wrB rs = true) (hl : nmB rs lat = true) {s : ByteArray} : s ∈ ltK rs act lat (tdR rs act lat tkn ph 3) rs.length ↔ ltS (hasB lat) (tlL rs (tdP act lat tkn ph)) s = true := by
  have hr : ∀ p ∈ rs, 1 ≤ p.r ∧ p.r ≤ 3 := fun p hp => by
    obtain ⟨i, hi, rfl⟩ := elAt_mem.1 hp
    exact wrR_facts hw hi
  rw [ltK_all, List.mem_map]
  unfold ltS
  rw [Bool.or_eq_true, List.any_eq_true]
  constructor
  · rintro ⟨p, hp, rfl⟩
    obtain ⟨hp, hc⟩ := List.mem_filter.1 hp
    simp only [Bool.or_eq_true, Bool.and_eq_true] at hc
    rcases hc with h | ⟨⟨h1, h2⟩, h3⟩
    · exact .inl h
    · right
      rw [hasB_mem, tdR_is] at h3
      obtain ⟨q, hq, e⟩ := List.mem_map.1 h3
      have hq2 := (tlL_mem hr).1 hq
      have := wr_one hw hq2.1 hp e
      subst this
      exact ⟨q, hq, by simp [h1]⟩
  · rintro (h | ⟨p, hp, hc⟩)
    · obtain ⟨p, hp, e⟩ := nm_mem hl h
      exact ⟨p, List.mem_filter.2 ⟨hp, by rw [e, h]; rfl⟩, e⟩
    · simp only [Bool.and_eq_true, decide_eq_true_eq] at hc
      obtain ⟨c1, rfl⟩ := hc
      have hp2 := (tlL_mem hr).1 hp
      refine ⟨p, List.mem_filter.2 ⟨hp2.1, ?_⟩, rfl⟩
      have ht : hasB (tdR rs act lat tkn ph 3) p.n = true := by rw [hasB_mem, tdR_is]; exact List.mem_map.2 ⟨p, hp, rfl⟩
      have hP := hp2.2
      unfold tdP at hP
      simp only [Bool.and_eq_true, Bool.or_eq_true] at hP
      rcases hP.1.1.1 with h | h
      · rw [c1, h, ht]; simp
      · rw [h]; rfl
def up1 (rs : List Wr) (z1 z2 z3 act : List ByteArray) (ph : Int) : List ByteArray := if upB rs z1 z2 z3 act ph = true then act else []
def up2 (rs : List Wr) (z1 z2 z3 act : List ByteArray) (ph : Int) : List ByteArray := if upB rs z1 z2 z3 act ph = true then ltK rs act z2 (tdR rs act z2 (tkK act z3 z3.length) ph 3) rs.length else []
def up3 (rs : List Wr) (z1 z2 z3 act : List ByteArray) (ph : Int) : List ByteArray := if upB rs z1 z2 z3 act ph = true then tkK act z3 z3.length else []
def upT (rs : List Wr) (z1 z2 z3 act : List ByteArray) (ph : Int) : List ByteArray := if upB rs z1 z2 z3 act ph = true then tdR rs act z2 (tkK act z3 z3.length) ph 3 else []
theorem up_no {rs : List Wr} {z1 z2 z3 act : List ByteArray} {ph : Int} (h : upB rs z1 z2 z3 act ph = false) : up1 rs z1 z2 z3 act ph = [] ∧ up2 rs z1 z2 z3 act ph = [] ∧ up3 rs z1 z2 z3 act ph = [] ∧ upT rs z1 z2 z3 act ph = [] := by simp [up1, up2, up3, upT, h]
theorem up_yes {rs : List Wr} {z1 z2 z3 act : List ByteArray} {ph : Int} (h : upB rs z1 z2 z3 act ph = true) : up1 rs z1 z2 z3 act ph = act ∧ up2 rs z1 z2 z3 act ph = ltK rs act z2 (tdR rs act z2 (tkK act z3 z3.length) ph 3) rs.length ∧ up3 rs z1 z2 z3 act ph = tkK act z3 z3.length ∧ upT rs z1 z2 z3 act ph = tdR rs act z2 (tkK act z3 z3.length) ph 3 := by simp [up1, up2, up3, upT, h]

end Go.Proofs.Ytfehfocfoegbdaa
