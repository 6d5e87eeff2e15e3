/-
  What the model's Due6 answers: the names that are due, sorted. Nothing that was there is written.
-/
import Derived.Test.YtnpohiceefkhdaoLeftSpec
import Derived.Test.YtnpohiceefkhdaoInsFacts
import Derived.Test.YtnpohiceefkhdaoStrRow
import Derived.Test.YtnpohiceefkhdaoBlk
import Derived.Deep.DrawnRows
import Derived.Deep.CutRange
import Derived.Deep.RegionLaw
import Derived.Maps.AppendAt
namespace Go.Proofs.Ytnpohiceefkhdao
open Go.RowKit

theorem same_name (x y : ByteArray) : (x.toList == y.toList) = decide (x = y) := by
  by_cases h : x = y
  · subst h; simp
  · have : ¬ x.toList = y.toList := fun e => h (same_text (by simpa using e))
    simp [h, this]
theorem hasN_no {ps : List Pt} {i : Nat} {s : ByteArray} (h : ∀ j, j < i → (elAt ps j).n ≠ s) : hasN ps i s = false := by
  simp only [hasN, decide_eq_false_iff_not]
  rintro ⟨j, hj, e⟩
  exact h j hj e
theorem hasN_yes {ps : List Pt} {i j : Nat} {s : ByteArray} (hj : j < i) (h : (elAt ps j).n = s) : hasN ps i s = true := by
  simp only [hasN, decide_eq_true_eq]
  exact ⟨j, hj, h⟩
theorem life_okAt (ps : List Pt) (k : Nat) : okAt ps 1000000 k = (!hasN ps k (elAt ps k).n && lifeB (elAt ps k).n (elAt ps k).a (elAt ps k).b (elAt ps k).c) := by
  unfold okAt lifeB; rw [Bool.and_assoc]
theorem stay_okAt (ps : List Pt) (k : Nat) : okAt ps 10000000 k = (!hasN ps k (elAt ps k).n && stayB (elAt ps k).n (elAt ps k).a (elAt ps k).b (elAt ps k).c) := by
  unfold okAt stayB; rw [Bool.and_assoc]
theorem row_empty (w : World) (a : Option Addr) : RowE 1 stC w a 0 [] := ⟨rfl, by omega, fun i hi => by omega⟩

theorem step_append_own {P : Program} {w : World} {ops : Array Oper} {o : Oper} {a : Act} {K : Act → World → Prop} {Q : Exit → Act → World → Prop} {E : Prop} (hgd : o.guard = none) (s x : Operand) (t : TypeId)
    (ho : o.op = .call { callee := .builtin .append, args := #[s, x], argTypes := #[t, t] })
    (base : Nat) (e : TypeId) (i : TypeInfo) (z : Value) (size bytes : Nat) (ht : P.underlying t = some (.slice e)) (hi : P.info? e = some i) (hz : i.zero = some z)
    (hsize : i.size = size) (hby : i.bytes = bytes) (hzs : z.cells.size = size) (hsz : 0 < size)
    (v : Value) (n : Nat) (xs : List Value) (hs : a.eval s = v) (hown : w.ownsRow base e size v n xs)
    (ad : Addr) (m c : Nat) (news : List Value) (hx : a.eval x = .slice (some ad) m c) (hl : news.length = m * size) (hnews : ∀ j u, news[j]? = some u → w.cell? (ad.add j) = some u) (h1 : ∀ u ∈ news, u.oneCell' = true)
    (h63 : n + m ≤ maxLen) (hbytes : (n + m) * bytes ≤ 140737488355328) (hbase : base ≤ w.heap.size)
    (h : ∀ v' w', w'.ownsRow base e size v' (n + m) (xs ++ news) → w.grownBy w' v.ownBlock → (v' = .slice none 0 0 ↔ v = .slice none 0 0 ∧ m = 0) → K (a.put o.dst v') w') :
    if Region.wanted o (yielded ops a.tmps) = true then Oper.wp P o a w K Q else E := by
  have hw : Region.wanted o (yielded ops a.tmps) = true := by simp [Region.wanted, hgd]
  rw [if_pos hw]
  exact wp_append_own w s x t ho base e i z size bytes ht hi hz hsize hby hzs hsz v n xs hs hown ad m c news hx hl hnews h1 h63 hbytes hbase h
theorem infoS : (Try.prog.info? 9).map (fun i => (i.zero, i.size, i.bytes)) = some (some (.string ⟨#[]⟩), 1, 16) := by kernel_rfl
theorem own_one {w : World} {base : Nat} {T : TypeId} {x : Value} (h : base ≤ w.heap.size) : (w.alloc (Obj.cells #[x] T)).ownsRow base T 1 (.slice (some ⟨w.heap.size, 0, none⟩) 1 1) 1 [x] := by
  refine ⟨by simp, .inr ⟨_, _, #[x], rfl, h, ?_, Nat.le_refl _, by simp [maxLen], by simp, by simp⟩⟩
  show (w.heap.push _)[w.heap.size]? = _
  simp
theorem own_nil {w : World} {base : Nat} {T : TypeId} (h : base ≤ w.heap.size) : (w.alloc (Obj.cells #[] T)).ownsRow base T 1 (.slice (some ⟨w.heap.size, 0, none⟩) 0 0) 0 [] := by
  refine ⟨by simp, .inr ⟨_, _, #[], rfl, h, ?_, Nat.le_refl _, by simp [maxLen], by simp, by simp⟩⟩
  show (w.heap.push _)[w.heap.size]? = _
  simp
theorem own_form {w : World} {base : Nat} {T : TypeId} {v : Value} {n : Nat} {xs : List Value} (h : w.ownsRow base T 1 v n xs) (hv : v ≠ .slice none 0 0) : ∃ g cap, v = .slice (some ⟨g, 0, none⟩) n cap ∧ base ≤ g ∧ g < w.heap.size ∧ n ≤ cap := by
  rcases h.2 with ⟨e, _⟩ | ⟨g, cap, cur, e, hb, hg, hc, _⟩
  · exact absurd e hv
  · exact ⟨g, cap, e, hb, (Array.getElem?_eq_some_iff.1 hg).1, hc⟩
/-- The cells of a piece of a list of texts. -/
theorem news_of {w : World} {g a m : Nat} {D Z : List ByteArray} (h : RowE 1 stC w (some ⟨g, 0, none⟩) D.length D) (hZ : ∀ j, j < Z.length → a + j < D.length ∧ elAt D (a + j) = elAt Z j) (_hm : Z.length = m) : ∀ j u, (Z.map Value.string)[j]? = some u → w.cell? ((⟨g, a, none⟩ : Addr).add j) = some u := by
  intro j u hj
  have hjl : j < Z.length := by
    have := (List.getElem?_eq_some_iff.1 hj).1
    simpa using this
  obtain ⟨h1, h2⟩ := hZ j hjl
  obtain ⟨b, off, ea, hc⟩ := h.at_ (a + j) h1
  simp only [Option.some.injEq, Addr.mk.injEq] at ea
  obtain ⟨rfl, rfl, _⟩ := ea
  have c0 := hc 0 (by omega)
  rw [h2] at c0
  have e1 : (Z.map Value.string)[j]? = some (.string (elAt Z j)) := by simp [elAt, hjl]
  rw [e1] at hj
  injection hj with hj
  rw [← hj]
  have e3 : (⟨g, a, none⟩ : Addr).add j = ⟨g, a + j, none⟩ := by
    unfold Addr.add
    by_cases h0 : j = 0
    · subst h0; simp
    · simp [h0]
  have e2 : 0 + (a + j) * 1 + 0 = a + j := by omega
  rw [e2] at c0
  rw [e3]
  exact c0
theorem piece_take {D : List ByteArray} {a : Nat} (h : a ≤ D.length) : ∀ j, j < (D.take a).length → 0 + j < D.length ∧ elAt D (0 + j) = elAt (D.take a) j := by
  intro j hj
  rw [List.length_take] at hj
  have : j < a := by omega
  refine ⟨by omega, ?_⟩
  simp [elAt, this]
theorem piece_drop {D : List ByteArray} {a : Nat} : ∀ j, j < (D.drop a).length → a + j < D.length ∧ elAt D (a + j) = elAt (D.drop a) j := by
  intro j hj
  rw [List.length_drop] at hj
  refine ⟨by omega, ?_⟩
  simp [elAt]
theorem row_own {w : World} {base : Nat} {T : TypeId} {g n cap : Nat} {Z : List ByteArray} (h : w.ownsRow base T 1 (.slice (some ⟨g, 0, none⟩) n cap) n (Z.map Value.string)) (hn : Z.length = n) (h2 : n ≤ 9223372036854775807) : RowE 1 stC w (some ⟨g, 0, none⟩) n Z := by
  subst hn
  refine ⟨rfl, h2, fun i hi => ⟨_, _, rfl, fun q hq => ?_⟩⟩
  obtain rfl : q = 0 := by omega
  have e : 0 + i * 1 + 0 = i := by omega
  rw [e, h.cellAt i (by omega)]
  simp [elAt, hi, stC]
theorem news_own {w : World} {base : Nat} {T : TypeId} {g n cap : Nat} {xs : List Value} (h : w.ownsRow base T 1 (.slice (some ⟨g, 0, none⟩) n cap) n xs) : ∀ j u, xs[j]? = some u → w.cell? ((⟨g, 0, none⟩ : Addr).add j) = some u := by
  intro j u hj
  have hl := h.1
  have hjl : j < xs.length := (List.getElem?_eq_some_iff.1 hj).1
  have e3 : (⟨g, 0, none⟩ : Addr).add j = ⟨g, j, none⟩ := by
    unfold Addr.add
    by_cases h0 : j = 0
    · subst h0; simp
    · simp [h0]
  rw [e3, h.cellAt j (by omega)]
  exact hj
theorem ins_map (D : List ByteArray) (x : ByteArray) (a : Nat) : ([] ++ (D.take a).map Value.string) ++ ([.string x] ++ (D.drop a).map Value.string) = (insAt D x a).map Value.string := by
  simp [insAt]
theorem one_texts (Z : List ByteArray) : ∀ u ∈ Z.map Value.string, u.oneCell' = true := by
  intro u hu
  obtain ⟨s, _, rfl⟩ := List.mem_map.1 hu
  rfl

/-- What the model has of a stay behind the first lives. -/
def isTo (ls : List Pt) (s : Pt) : Nat → Bool
  | 0 => true
  | k + 1 => if (elAt ls k).n = s.n then metB (elAt ls k).a (elAt ls k).b (elAt ls k).c s.a s.b s.c else isTo ls s k
theorem isTo_is {ls : List Pt} {s : Pt} : ∀ k, apart ls k → isTo ls s k = decide (∀ j, j < k → (elAt ls j).n = s.n → metB (elAt ls j).a (elAt ls j).b (elAt ls j).c s.a s.b s.c = true) := by
  intro k
  induction k with
  | zero => intro _; simp [isTo]
  | succ k ih =>
    intro ha
    have hk := ih (fun i j h1 h2 => ha i j h1 (by omega))
    by_cases e : (elAt ls k).n = s.n
    · simp only [isTo, if_pos e]
      cases hm : metB (elAt ls k).a (elAt ls k).b (elAt ls k).c s.a s.b s.c with
      | false =>
        refine (decide_eq_false fun f => ?_).symm
        have := f k (by omega) e
        rw [hm] at this; cases this
      | true =>
        refine (decide_eq_true fun j hj ej => ?_).symm
        rcases Nat.lt_succ_iff_lt_or_eq.1 hj with h | h
        · exact absurd (ej.trans e.symm) (ha j k h (by omega))
        · subst h; exact hm
    · simp only [isTo, if_neg e, hk]
      congr 1
      refine propext ⟨fun f j hj ej => ?_, fun f j hj => f j (by omega)⟩
      rcases Nat.lt_succ_iff_lt_or_eq.1 hj with h | h
      · exact f j h ej
      · subst h; exact absurd ej e
theorem isTo_due {ls : List Pt} {s : Pt} (ha : apart ls ls.length) : isTo ls s ls.length = dueB ls s := isTo_is _ ha
theorem met_spec {b0 b1 b2 s0 s1 s2 : Int} (hb : in3 b0 b1 b2 1000000 = true) :
    (decide (0 < b0) && decide (b0 ≤ s0) || decide (0 < b1) && decide (b1 ≤ s1) || decide (0 < b2) && decide (b2 ≤ s2)) = metB b0 b1 b2 s0 s1 s2 := by
  obtain ⟨h0, h1, h2⟩ := in3_facts hb
  have e0 : decide (0 < b0) = decide (b0 ≠ 0) := by congr 1; exact propext (by omega)
  have e1 : decide (0 < b1) = decide (b1 ≠ 0) := by congr 1; exact propext (by omega)
  have e2 : decide (0 < b2) = decide (b2 ≠ 0) := by congr 1; exact propext (by omega)
  rw [e0, e1, e2]; rfl

set_option maxRecDepth 20000 in
set_option maxHeartbeats 16000000 in
theorem specDue6_any (al : Option Addr) (ll cl : Nat) (ls : List Pt) (ak : Option Addr) (ln cn : Nat) (ss : List Pt) (w : World) (hl : RowE 4 ptC w al ll ls) (hs : RowE 4 ptC w ak ln ss) (hfl : ∀ i, ptFit (elAt ls i)) (hfs : ∀ i, ptFit (elAt ss i)) :
    Calls Try.prog 25 #[.slice al ll cl, .slice ak ln cn] w fun e w' => ∃ a cap, e = .returned (.tuple #[.slice a (dueS ls ss).length cap, .bool (dueOk ls ss)]) ∧ RowE 1 stC w' a (dueS ls ss).length (dueS ls ss) ∧ Below w.heap.size w w' := by
  obtain ⟨i0, hii, hz0, hz1, hz2⟩ := info_parts infoS
  have hll := hl.small
  have hln := hs.small
  have RL := hide hl
  have RS := hide hs
  have HFL := hide hfl
  have HFS := hide hfs
  have HLL := hide hl.len_eq
  have HLS := hide hs.len_eq
  have B0 := hide (bel1 (w := w) (Obj.cells #[] 9))
  have NO : Hid (∀ (W : World) (a : Option Addr) (c : Nat), dueOk ls ss = false → Below w.heap.size w W → ∃ a' cap, (Ending.returned (.tuple #[.slice a 0 c, .bool false]) = .returned (.tuple #[.slice a' (dueS ls ss).length cap, .bool (dueOk ls ss)])) ∧ RowE 1 stC W a' (dueS ls ss).length (dueS ls ss) ∧ Below w.heap.size w W) := hide fun W a c h b => by
    rw [dueS_no h, h]
    exact ⟨a, c, rfl, row_empty _ _, b⟩
  clear hl hs hfl hfs
  by_cases g1 : 30 < ll
  · have HE : Hid (dueOk ls ss = false) := hide (by unfold dueOk; rw [okB_long (by rw [unhide HLL]; exact g1)]; rfl)
    have g1' : (30 : Int) < (ll : Int) := by omega
    go_enter Try.func25, Try.ntmps25
    go_wp2_with fail
    go_ret2
    exact unhide NO _ _ _ (unhide HE) (unhide B0)
  have g1' : (ll : Int) ≤ 30 := by omega
  by_cases g2 : 30 < ln
  · have HE : Hid (dueOk ls ss = false) := hide (by unfold dueOk; rw [okB_long (ps := ss) (by rw [unhide HLS]; exact g2), Bool.and_false])
    have g2' : (30 : Int) < (ln : Int) := by omega
    clear g1
    go_enter Try.func25, Try.ntmps25
    go_wp2_with fail
    go_ret2
    exact unhide NO _ _ _ (unhide HE) (unhide B0)
  have g2' : (ln : Int) ≤ 30 := by omega
  have HG1 := hide g1
  have HG2 := hide g2
  clear g1 g2
  go_enter Try.func25, Try.ntmps25
  go_wp2_with fail
  go_loopw [7] (fun iv wr => ∃ (i : Nat), i ≤ ll ∧ iv = .int .i64 i ∧ Hid (∀ j, j < i → okAt ls 1000000 j = true) ∧ Below w.heap.size w wr) (fun i _ => ll - (intOf i).toNat)
  case atStart => exact ⟨0, Nat.zero_le _, rfl, hide (fun j hj => by omega), unhide B0⟩
  case round =>
    obtain ⟨i, hi, rfl, HN, hbel⟩ := hrel
    by_cases hlt : i < ll
    · have hi1 : (i : Int) < (ll : Int) := by omega
      obtain ⟨p, hp⟩ : ∃ p, elAt ls i = p := ⟨_, rfl⟩
      have HP := hide hp
      have HB := hide hbel
      have HLT := hide hlt
      clear hp hbel hlt
      go_wp2_with fail
      go_loopw [8] (fun kv w2 => ∃ (k n : Nat), k ≤ i ∧ kv = .int .i64 k ∧ Hid (∀ j, j < k → (elAt ls j).n ≠ p.n) ∧ w2 = wr.drewN n) (fun k _ => i - (intOf k).toNat)
      case atStart => exact ⟨0, 0, Nat.zero_le _, rfl, hide (fun j hj => by omega), rfl⟩
      case round =>
        obtain ⟨k, n, hk, rfl, HK, rfl⟩ := hrel
        by_cases hkl : k < i
        · have hk1 : (k : Int) < (i : Int) := by omega
          have hk2 : (k : Int) < (ll : Int) := by omega
          obtain ⟨bb, off, ea, hc⟩ := ((unhide RL).below (unhide HB)).at_ k (by have := unhide HLT; omega)
          obtain ⟨bb', off', ea', hc'⟩ := ((unhide RL).below (unhide HB)).at_ i (unhide HLT)
          subst ea
          simp only [Option.some.injEq, Addr.mk.injEq] at ea'
          obtain ⟨rfl, rfl, _⟩ := ea'
          have c0 : wr.cell? ⟨bb, off + k * 4, none⟩ = some (.string (elAt ls k).n) := hc 0 (by omega)
          have d0 : wr.cell? ⟨bb, off + i * 4, none⟩ = some (.string p.n) := by rw [← unhide HP]; exact hc' 0 (by omega)
          have hcmp := same_name (elAt ls k).n p.n
          clear hc hc'
          by_cases he : (elAt ls k).n = p.n
          · have HE : Hid (dueOk ls ss = false) := hide (by
              have h1 : okAt ls 1000000 i = false := by rw [life_okAt, unhide HP, hasN_yes hkl he]; rfl
              unfold dueOk; rw [okB_at (ps := ls) (k := i) (by rw [unhide HLL]; exact unhide HLT) h1]; rfl)
            rw [decide_eq_true he] at hcmp
            clear he
            go_wp2_with fail
            go_quiet (fail)
            go_wp2_with fail
            go_ret2
            exact unhide NO _ _ _ (unhide HE) (((unhide HB).trans (bel0d' n)).trans (bel0d' _))
          · rw [decide_eq_false he] at hcmp
            have HE := hide he
            clear he
            go_wp2_with fail
            go_quiet (fail)
            go_wp2_with fail
            go_roundw
            case rel => exact ⟨k + 1, _, by omega, by go_num, hide (fun j hj => by rcases Nat.lt_succ_iff_lt_or_eq.1 hj with h | h; exact unhide HK j h; subst h; exact unhide HE), rfl⟩
            case measure => simp [intOf]; omega
        · have hk1 : ¬ (k : Int) < (i : Int) := by omega
          have HH : Hid (hasN ls i p.n = false) := hide (hasN_no (fun j hj => unhide HK j (by omega)))
          obtain ⟨bb, off, ea, hc⟩ := ((unhide RL).below (unhide HB)).at_ i (unhide HLT)
          subst ea
          have c0 : wr.cell? ⟨bb, off + i * 4, none⟩ = some (.string p.n) := by rw [← unhide HP]; exact hc 0 (by omega)
          have c1 : wr.cell? ⟨bb, off + i * 4 + 1, none⟩ = some (.int .i64 p.a) := by rw [← unhide HP]; exact hc 1 (by omega)
          have c2 : wr.cell? ⟨bb, off + i * 4 + 2, none⟩ = some (.int .i64 p.b) := by rw [← unhide HP]; exact hc 2 (by omega)
          have c3 : wr.cell? ⟨bb, off + i * 4 + 3, none⟩ = some (.int .i64 p.c) := by rw [← unhide HP]; exact hc 3 (by omega)
          have hn : p.n.size ≤ 9223372036854775807 := by rw [← unhide HP]; exact (unhide HFL i).1
          clear hc hkl
          cases gl : lifeB p.n p.a p.b p.c with
          | false =>
            have HE : Hid (dueOk ls ss = false) := hide (by
              have h1 : okAt ls 1000000 i = false := by rw [life_okAt, unhide HP, gl, Bool.and_false]
              unfold dueOk; rw [okB_at (ps := ls) (k := i) (by rw [unhide HLL]; exact unhide HLT) h1]; rfl)
            go_wp2_with fail
            refine (l6Life_is _ _ _ _ _ hn gl).mono ?_
            rintro x w3 ⟨rfl, b3⟩
            have HB3 := hide (((unhide HB).trans (bel0d' n)).trans (b3.mono (unhide HB).size))
            clear b3
            go_wp2_with fail
            go_ret2
            exact unhide NO _ _ _ (unhide HE) (unhide HB3)
          | true =>
            have HY : Hid (okAt ls 1000000 i = true) := hide (by rw [life_okAt, unhide HP, gl, unhide HH]; rfl)
            go_wp2_with fail
            refine (l6Life_is _ _ _ _ _ hn gl).mono ?_
            rintro x w3 ⟨rfl, b3⟩
            have HB3 := hide (((unhide HB).trans (bel0d' n)).trans (b3.mono (unhide HB).size))
            clear b3 c0 c1 c2 c3 gl
            go_wp2_with fail
            go_roundw
            case rel => exact ⟨i + 1, by have := unhide HLT; omega, by go_num, hide (fun j hj => by rcases Nat.lt_succ_iff_lt_or_eq.1 hj with h | h; exact unhide HN j h; subst h; exact unhide HY), unhide HB3⟩
            case measure => have := unhide HLT; simp [intOf]; omega
    · have HOKL : Hid (okB ls 1000000 = true) := hide (okB_all (by have := unhide HG1; have := unhide HLL; omega) (fun j hj => unhide HN j (by have := unhide HLL; omega)))
      have hi1 : ¬ (i : Int) < (ll : Int) := by omega
      have HB := hide hbel
      clear hbel
      have HAL := hide (okB_apart (unhide HOKL))
      have RD0 : Hid (RowE 1 stC (wr.alloc (Obj.cells #[] 9)) (some ⟨wr.heap.size, 0, none⟩) 0 []) := hide (row_empty _ _)
      have B1 := hide ((unhide HB).alloc (unhide HB).size (Obj.cells #[] 9))
      clear B0 HN
      go_wp2_with fail
      go_loopw [9, 10] (fun dv iv wr => ∃ (i g c : Nat) (D : List ByteArray), i ≤ ln ∧ dv = .slice (some ⟨g, 0, none⟩) D.length c ∧ iv = .int .i64 i ∧ Hid (∀ j, j < i → okAt ss 10000000 j = true) ∧ Hid (Risen D ∧ (byL D).Perm (dueL ls (ss.take i))) ∧ (D.length ≤ i ∧ D.length ≤ c) ∧ g < wr.heap.size ∧ RowE 1 stC wr (some ⟨g, 0, none⟩) D.length D ∧ Below w.heap.size w wr) (fun _ i _ => ln - (intOf i).toNat)
      case atStart => exact ⟨0, wr.heap.size, 0, [], Nat.zero_le _, rfl, rfl, hide (fun j hj => by omega), hide ⟨List.Pairwise.nil, by simp [byL, dueL]⟩, by simp, by simp, unhide RD0, unhide B1⟩
      case round =>
        clear B1 RD0 HB hi hi1 hlt
        obtain ⟨i, g, c, D, hi, rfl, rfl, HN, HD, hDl, hgs, hrow, hbel⟩ := hrel
        have HGS := hide hgs
        clear hgs
        have HRW := hide hrow
        clear hrow
        by_cases hlt : i < ln
        · have hi1 : (i : Int) < (ln : Int) := by omega
          obtain ⟨p, hp⟩ : ∃ p, elAt ss i = p := ⟨_, rfl⟩
          have HP := hide hp
          have HB := hide hbel
          have HLT := hide hlt
          clear hp hbel hlt
          go_wp2_with fail
          go_loopw [11] (fun kv w2 => ∃ (k n : Nat), k ≤ i ∧ kv = .int .i64 k ∧ Hid (∀ j, j < k → (elAt ss j).n ≠ p.n) ∧ w2 = wr.drewN n) (fun k _ => i - (intOf k).toNat)
          case atStart => exact ⟨0, 0, Nat.zero_le _, rfl, hide (fun j hj => by omega), rfl⟩
          case round =>
            obtain ⟨k, n, hk, rfl, HK, rfl⟩ := hrel
            by_cases hkl : k < i
            · have hk1 : (k : Int) < (i : Int) := by omega
              have hk2 : (k : Int) < (ln : Int) := by omega
              obtain ⟨bb, off, ea, hc⟩ := ((unhide RS).below (unhide HB)).at_ k (by have := unhide HLT; omega)
              obtain ⟨bb', off', ea', hc'⟩ := ((unhide RS).below (unhide HB)).at_ i (unhide HLT)
              subst ea
              simp only [Option.some.injEq, Addr.mk.injEq] at ea'
              obtain ⟨rfl, rfl, _⟩ := ea'
              have c0 : wr.cell? ⟨bb, off + k * 4, none⟩ = some (.string (elAt ss k).n) := hc 0 (by omega)
              have d0 : wr.cell? ⟨bb, off + i * 4, none⟩ = some (.string p.n) := by rw [← unhide HP]; exact hc' 0 (by omega)
              have hcmp := same_name (elAt ss k).n p.n
              clear hc hc'
              by_cases he : (elAt ss k).n = p.n
              · have HE : Hid (dueOk ls ss = false) := hide (by
                  have h1 : okAt ss 10000000 i = false := by rw [stay_okAt, unhide HP, hasN_yes hkl he]; rfl
                  unfold dueOk; rw [okB_at (ps := ss) (k := i) (by rw [unhide HLS]; exact unhide HLT) h1]; rw [Bool.and_false])
                rw [decide_eq_true he] at hcmp
                clear he
                go_wp2_with fail
                go_quiet (fail)
                go_wp2_with fail
                go_ret2
                exact unhide NO _ _ _ (unhide HE) (((unhide HB).trans (bel0d' n)).trans (bel0d' _))
              · rw [decide_eq_false he] at hcmp
                have HE := hide he
                clear he
                go_wp2_with fail
                go_quiet (fail)
                go_wp2_with fail
                go_roundw
                case rel => exact ⟨k + 1, _, by omega, by go_num, hide (fun j hj => by rcases Nat.lt_succ_iff_lt_or_eq.1 hj with h | h; exact unhide HK j h; subst h; exact unhide HE), rfl⟩
                case measure => simp [intOf]; omega
            · have hk1 : ¬ (k : Int) < (i : Int) := by omega
              have HH : Hid (hasN ss i p.n = false) := hide (hasN_no (fun j hj => unhide HK j (by omega)))
              obtain ⟨bb, off, ea, hc⟩ := ((unhide RS).below (unhide HB)).at_ i (unhide HLT)
              subst ea
              have c0 : wr.cell? ⟨bb, off + i * 4, none⟩ = some (.string p.n) := by rw [← unhide HP]; exact hc 0 (by omega)
              have c1 : wr.cell? ⟨bb, off + i * 4 + 1, none⟩ = some (.int .i64 p.a) := by rw [← unhide HP]; exact hc 1 (by omega)
              have c2 : wr.cell? ⟨bb, off + i * 4 + 2, none⟩ = some (.int .i64 p.b) := by rw [← unhide HP]; exact hc 2 (by omega)
              have c3 : wr.cell? ⟨bb, off + i * 4 + 3, none⟩ = some (.int .i64 p.c) := by rw [← unhide HP]; exact hc 3 (by omega)
              have hn : p.n.size ≤ 9223372036854775807 := by rw [← unhide HP]; exact (unhide HFS i).1
              clear hc hkl
              cases gl : stayB p.n p.a p.b p.c with
              | false =>
                have HE : Hid (dueOk ls ss = false) := hide (by
                  have h1 : okAt ss 10000000 i = false := by rw [stay_okAt, unhide HP, gl, Bool.and_false]
                  unfold dueOk; rw [okB_at (ps := ss) (k := i) (by rw [unhide HLS]; exact unhide HLT) h1]; rw [Bool.and_false])
                go_wp2_with fail
                refine (l6Stay_is _ _ _ _ _ hn gl).mono ?_
                rintro x w3 ⟨rfl, b3⟩
                have HB3 := hide (((unhide HB).trans (bel0d' n)).trans (b3.mono (unhide HB).size))
                clear b3
                go_wp2_with fail
                go_ret2
                exact unhide NO _ _ _ (unhide HE) (unhide HB3)
              | true =>
                have HY : Hid (okAt ss 10000000 i = true) := hide (by rw [stay_okAt, unhide HP, gl, unhide HH]; rfl)
                go_wp2_with fail
                refine (l6Stay_is _ _ _ _ _ hn gl).mono ?_
                rintro x w3 ⟨rfl, b3⟩
                have HB3 := hide (((unhide HB).trans (bel0d' n)).trans (b3.mono (unhide HB).size))
                have HRW3 := hide ((unhide HRW).below ((bel0d n).trans b3))
                have HGS3 : Hid (g < w3.heap.size) := hide (by have := b3.size; have := unhide HGS; simp at *; omega)
                clear b3 c0 c1 c2 c3 gl
                go_wp2_with fail
                go_loopw [12, 13] (fun sv kv w2 => ∃ (k : Nat), k ≤ ll ∧ sv = .bool (isTo ls p k) ∧ kv = .int .i64 k ∧ Below w3.heap.size w3 w2) (fun _ k _ => ll - (intOf k).toNat)
                case atStart => exact ⟨0, Nat.zero_le _, rfl, rfl, Below.refl _ _⟩
                case round =>
                  obtain ⟨k, hk, rfl, rfl, hbel⟩ := hrel
                  by_cases hkl : k < ll
                  · have hk1 : (k : Int) < (ll : Int) := by omega
                    obtain ⟨lf, hlf⟩ : ∃ lf, elAt ls k = lf := ⟨_, rfl⟩
                    obtain ⟨b1, o1, ea, hc⟩ := (((unhide RL).below (unhide HB3)).below hbel).at_ k hkl
                    obtain ⟨b2, o2, ea2, hc2⟩ := (((unhide RS).below (unhide HB3)).below hbel).at_ i (unhide HLT)
                    have x0 : wr.cell? ⟨b1, o1 + k * 4, none⟩ = some (.string lf.n) := by rw [← hlf]; exact hc 0 (by omega)
                    have x1 : wr.cell? ⟨b1, o1 + k * 4 + 1, none⟩ = some (.int .i64 lf.a) := by rw [← hlf]; exact hc 1 (by omega)
                    have x2 : wr.cell? ⟨b1, o1 + k * 4 + 2, none⟩ = some (.int .i64 lf.b) := by rw [← hlf]; exact hc 2 (by omega)
                    have x3 : wr.cell? ⟨b1, o1 + k * 4 + 3, none⟩ = some (.int .i64 lf.c) := by rw [← hlf]; exact hc 3 (by omega)
                    have y0 : wr.cell? ⟨b2, o2 + i * 4, none⟩ = some (.string p.n) := by rw [← unhide HP]; exact hc2 0 (by omega)
                    have y1 : wr.cell? ⟨b2, o2 + i * 4 + 1, none⟩ = some (.int .i64 p.a) := by rw [← unhide HP]; exact hc2 1 (by omega)
                    have y2 : wr.cell? ⟨b2, o2 + i * 4 + 2, none⟩ = some (.int .i64 p.b) := by rw [← unhide HP]; exact hc2 2 (by omega)
                    have y3 : wr.cell? ⟨b2, o2 + i * 4 + 3, none⟩ = some (.int .i64 p.c) := by rw [← unhide HP]; exact hc2 3 (by omega)
                    have HLF := hide hlf
                    have HBE := hide hbel
                    have HIN : Hid (in3 lf.a lf.b lf.c 1000000 = true) := hide (by rw [← hlf]; exact (okAt_facts ((okB_facts (unhide HOKL)).2 k (by rw [unhide HLL]; exact hkl))).2.2)
                    have lb1 := block_lt_of_cell x0
                    have lb2 := block_lt_of_cell y0
                    clear hc hc2 hlf hbel
                    subst ea
                    simp only [Option.some.injEq, Addr.mk.injEq] at ea2
                    obtain ⟨rfl, rfl, _⟩ := ea2
                    go_upto_region 29 with fail
                    go_cut [14, 15] from 89 to 141 (fun u v W => ∃ g1 g2, u = .pointer (some ⟨g1, 0, none⟩) ∧ v = .pointer (some ⟨g2, 0, none⟩) ∧ Blk W g1 [.string lf.n, .int .i64 lf.a, .int .i64 lf.b, .int .i64 lf.c] ∧ Blk W g2 [.string p.n, .int .i64 p.a, .int .i64 p.b, .int .i64 p.c] ∧ Below wr.heap.size wr W)
                    case first =>
                      go_region
                      all_goals
                        go_wp2_with fail
                        go_meet
                        case rel =>
                          refine ⟨_, _, rfl, rfl, ⟨fun q hq => ?_, fun q hq => ?_, ?_⟩, ⟨fun q hq => ?_, fun q hq => ?_, ?_⟩, ?_⟩
                          · rcases (show q = 0 ∨ q = 1 ∨ q = 2 ∨ q = 3 from by simp at hq; omega) with rfl | rfl | rfl | rfl <;> simp [go_sem]
                          · rcases (show q = 0 ∨ q = 1 ∨ q = 2 ∨ q = 3 from by simp at hq; omega) with rfl | rfl | rfl | rfl <;> simp [go_sem]
                          · first | (simp; done) | (simp; omega)
                          · rcases (show q = 0 ∨ q = 1 ∨ q = 2 ∨ q = 3 from by simp at hq; omega) with rfl | rfl | rfl | rfl <;> simp [go_sem]
                          · rcases (show q = 0 ∨ q = 1 ∨ q = 2 ∨ q = 3 from by simp at hq; omega) with rfl | rfl | rfl | rfl <;> simp [go_sem]
                          · first | (simp; done) | (simp; omega)
                          · repeat (first | exact Below.refl _ _ | refine Below.trans ?_ (bel0d' _) | refine Below.setCell ?_ (by simp; try omega) _ | refine Below.alloc ?_ (by simp; try omega) _)
                    case rest =>
                      obtain ⟨g1, g2, rfl, rfl, hK1, hK2, hbc⟩ := hcut
                      have m0 : wc.cell? ⟨g1, 0, none⟩ = some (.string lf.n) := hK1.c 0 (by simp)
                      have m1 : wc.cell? ⟨g1, 1, none⟩ = some (.int .i64 lf.a) := hK1.c 1 (by simp)
                      have m2 : wc.cell? ⟨g1, 2, none⟩ = some (.int .i64 lf.b) := hK1.c 2 (by simp)
                      have m3 : wc.cell? ⟨g1, 3, none⟩ = some (.int .i64 lf.c) := hK1.c 3 (by simp)
                      have q0 : wc.cell? ⟨g2, 0, none⟩ = some (.string p.n) := hK2.c 0 (by simp)
                      have q1 : wc.cell? ⟨g2, 1, none⟩ = some (.int .i64 p.a) := hK2.c 1 (by simp)
                      have q2 : wc.cell? ⟨g2, 2, none⟩ = some (.int .i64 p.b) := hK2.c 2 (by simp)
                      have q3 : wc.cell? ⟨g2, 3, none⟩ = some (.int .i64 p.c) := hK2.c 3 (by simp)
                      have HBC := hide ((unhide HBE).trans (hbc.mono (unhide HBE).size))
                      have hcmp := same_name lf.n p.n
                      clear hK1 hK2 hbc x0 x1 x2 x3 y0 y1 y2 y3
                      by_cases he : lf.n = p.n
                      · have HI : Hid (isTo ls p (k + 1) = (decide (0 < lf.a) && decide (lf.a ≤ p.a) || decide (0 < lf.b) && decide (lf.b ≤ p.b) || decide (0 < lf.c) && decide (lf.c ≤ p.c))) := hide (by rw [met_spec (unhide HIN)]; simp only [isTo, unhide HLF, if_pos he])
                        rw [decide_eq_true he] at hcmp
                        clear he
                        go_wp2_with fail
                        all_goals
                          go_roundw
                          case rel =>
                            refine ⟨k + 1, by omega, ?_, by go_num, unhide HBC⟩
                            rw [unhide HI]
                            congr 1
                            refine Bool.eq_iff_iff.2 ?_
                            first | (simp; done) | (simp; omega)
                          case measure => simp [intOf]; omega
                      · have HI : Hid (isTo ls p (k + 1) = isTo ls p k) := hide (by simp only [isTo, unhide HLF, if_neg he])
                        rw [decide_eq_false he] at hcmp
                        clear he
                        go_wp2_with fail
                        go_roundw
                        case rel => exact ⟨k + 1, by omega, by rw [unhide HI], by go_num, unhide HBC⟩
                        case measure => simp [intOf]; omega
                  · have hk1 : ¬ (k : Int) < (ll : Int) := by omega
                    have HIS : Hid (isTo ls p k = dueB ls p) := hide (by
                      have e : k = ls.length := by have := unhide HLL; omega
                      rw [e]; exact isTo_due (unhide HAL))
                    have HBK := hide ((unhide HB3).trans (hbel.mono (unhide HB3).size))
                    have HRK := hide ((unhide HRW3).below hbel)
                    have HGK : Hid (g < wr.heap.size) := hide (Nat.lt_of_lt_of_le (unhide HGS3) hbel.size)
                    obtain ⟨b2, o2, ea2, hc2⟩ := (((unhide RS).below (unhide HB3)).below hbel).at_ i (unhide HLT)
                    simp only [Option.some.injEq, Addr.mk.injEq] at ea2
                    obtain ⟨rfl, rfl, _⟩ := ea2
                    have y0 : wr.cell? ⟨bb, off + i * 4, none⟩ = some (.string p.n) := by rw [← unhide HP]; exact hc2 0 (by omega)
                    clear hbel hc2
                    cases gd : dueB ls p with
                    | false =>
                      have HIF : Hid (isTo ls p k = false) := hide ((unhide HIS).trans gd)
                      have HD1 : Hid (Risen D ∧ (byL D).Perm (dueL ls (ss.take (i + 1)))) := hide ⟨(unhide HD).1, by
                        rw [dueL_take (by rw [unhide HLS]; exact unhide HLT), unhide HP, gd]
                        simpa using (unhide HD).2⟩
                      clear gd
                      rw [unhide HIF]
                      go_wp2_with fail
                      go_roundw
                      case rel => exact ⟨i + 1, g, c, D, by have := unhide HLT; omega, rfl, by go_num, hide (fun j hj => by rcases Nat.lt_succ_iff_lt_or_eq.1 hj with h | h; exact unhide HN j h; subst h; exact unhide HY), HD1, by omega, unhide HGK, unhide HRK, unhide HBK⟩
                      case measure => have := unhide HLT; simp [intOf]; omega
                    | true =>
                    have HIF : Hid (isTo ls p k = true) := hide ((unhide HIS).trans gd)
                    have HGD := hide gd
                    clear gd
                    rw [unhide HIF]
                    go_wp2_with fail
                    go_loopw [16] (fun av w2 => ∃ (a n : Nat), a ≤ D.length ∧ av = .int .i64 a ∧ Hid (∀ j, j < a → ltB (elAt D j) p.n = true) ∧ w2 = wr.drewN n) (fun a _ => D.length - (intOf a).toNat)
                    case atStart => exact ⟨0, 0, Nat.zero_le _, rfl, hide (fun j hj => by omega), rfl⟩
                    case round =>
                      obtain ⟨a, n, ha, rfl, HA, rfl⟩ := hrel
                      by_cases hal : a < D.length
                      · have ha1 : (a : Int) < (D.length : Int) := by omega
                        obtain ⟨b4, o4, ea4, hc4⟩ := (unhide HRK).at_ a hal
                        simp only [Option.some.injEq, Addr.mk.injEq] at ea4
                        obtain ⟨rfl, rfl, _⟩ := ea4
                        have z0 : wr.cell? ⟨g, a, none⟩ = some (.string (elAt D a)) := by have := hc4 0 (by omega); simpa [stC] using this
                        clear hc4
                        cases gl : ltB (elAt D a) p.n with
                        | true =>
                          have HGL := hide gl
                          unfold ltB at gl
                          go_wp2_with fail
                          go_quiet (fail)
                          go_wp2_with fail
                          go_roundw
                          case rel => exact ⟨a + 1, _, by omega, by go_num, hide (fun j hj => by rcases Nat.lt_succ_iff_lt_or_eq.1 hj with h | h; exact unhide HA j h; subst h; exact unhide HGL), rfl⟩
                          case measure => simp [intOf]; omega
                        | false =>
                          have HNXT : Hid (a < D.length → ltB (elAt D a) p.n = false) := hide fun _ => gl
                          unfold ltB at gl
                          go_wp2_with fail
                          go_quiet (fail)
                          go_upto_region 36 with fail
                          have HV0 : Hid (∀ q, Below w.heap.size w ((wr.drewN n).drewN q)) := hide fun q => (((unhide HBK).trans (bel0d' n)).trans (bel0d' q))
                          have HVR : Hid (∀ q, RowE 1 stC ((wr.drewN n).drewN q) (some ⟨g, 0, none⟩) D.length D) := hide fun q => ((unhide HRK).drewN n).drewN q
                          have yv : ∀ q, ((wr.drewN n).drewN q).cell? ⟨bb, off + i * 4, none⟩ = some (.string p.n) := fun q => y0
                          obtain ⟨V, hV⟩ : ∃ V, V = (wr.drewN n).drewN nq := ⟨_, rfl⟩
                          have HV0 := hide (unhide HV0 nq)
                          have HVR := hide (unhide HVR nq)
                          have yv := yv nq
                          rw [← hV] at HV0 HVR yv ⊢
                          have HIA := hide (risen_ins (unhide HD).1 ha (unhide HA) (unhide HNXT))
                          have hgV : g < V.heap.size := by rw [hV]; exact unhide HGK
                          clear y0 hV gl z0
                          have hA0 : (0 : Int) ≤ (a : Int) := by omega
                          have hA1 : (a : Int) ≤ (D.length : Int) := by omega
                          have hA2 : (D.length : Int) ≤ (c : Int) := by omega
                          have hD30 : D.length ≤ 30 := by omega
                          have hzV := (unhide HV0).size
                          have F1 : Hid (∀ q, ((V.drewN q).alloc (Obj.cells #[.string p.n] 9)).ownsRow w.heap.size 9 1 (.slice (some ⟨V.heap.size, 0, none⟩) 1 1) 1 [.string p.n]) := hide fun q => own_one (w := V.drewN q) hzV
                          obtain ⟨oA, hoA1, hoA2⟩ : ∃ oA : Nat, (c = a → oA = 0) ∧ (c ≠ a → oA = a) := ⟨if c = a then 0 else a, fun h => if_pos h, fun h => if_neg h⟩
                          have HOA1 := hide hoA1
                          have HOA2 := hide hoA2
                          have F2 : Hid (∀ q, ∀ j u, ((D.drop a).map Value.string)[j]? = some u → ((V.drewN q).alloc (Obj.cells #[.string p.n] 9)).cell? ((⟨g, oA, none⟩ : Addr).add j) = some u) := hide fun q => by
                            by_cases hca : c = a
                            · intro j u hj
                              rw [List.drop_eq_nil_of_le (by omega)] at hj
                              simp at hj
                            · rw [hoA2 hca]; exact news_of (((unhide HVR).drewN q).alloc _) piece_drop rfl
                          clear hoA1 hoA2
                          have F3 : Hid (∀ q, RowE 1 stC ((V.drewN q).alloc (Obj.cells #[.string p.n] 9)) (some ⟨g, 0, none⟩) D.length D) := hide fun q => ((unhide HVR).drewN q).alloc _
                          have F4 : Hid (∀ q, Below V.heap.size V ((V.drewN q).alloc (Obj.cells #[.string p.n] 9))) := hide fun q => (bel0d' q).alloc (Nat.le_refl _) _
                          obtain ⟨M, hM⟩ : ∃ M, M = D.length - a := ⟨_, rfl⟩
                          have HM := hide hM
                          have hM30 : M ≤ 30 := by omega
                          clear hM
                          go_cut [17] from 59 to 177 (fun r W => W.ownsRow w.heap.size 9 1 r (1 + M) ([.string p.n] ++ (D.drop a).map Value.string) ∧ r ≠ .slice none 0 0 ∧ RowE 1 stC W (some ⟨g, 0, none⟩) D.length D ∧ Below V.heap.size V W)
                          case first =>
                            go_region_law (refine step_append_own rfl (.tmp 166) (.tmp 169) 52 rfl w.heap.size 9 i0 (.string ⟨#[]⟩) 1 16 Try.underlying52 hii hz0 hz1 hz2 rfl (by decide) (.slice (some ⟨V.heap.size, 0, none⟩) 1 1) 1 [.string p.n] (by simp [Act.eval]) (unhide F1 _) ⟨g, oA, none⟩ (D.length - a) (c - a) ((D.drop a).map Value.string) (by by_cases hcb : c = a; (first | (simp [Act.eval, unhide HOA1 hcb]; done) | (simp [Act.eval, unhide HOA1 hcb]; omega)); (first | (simp [Act.eval, unhide HOA2 hcb]; done) | (simp [Act.eval, unhide HOA2 hcb]; omega))) (by simp) (unhide F2 _) (one_texts _) (by unfold maxLen; omega) (by omega) (by simp; omega) ?_; intro v9 w9 hown9 hg9 hnil9)
                            all_goals
                              go_wp2_with fail
                              go_meet
                              case rel => exact ⟨by rw [unhide HM]; exact hown9, fun e => (by have := (hnil9.1 e).1; simp at this), (unhide F3 _).far hg9 (by simp [Value.ownBlock]; omega), (unhide F4 _).grown hg9 (by simp) (fun q hq => by simp [Value.ownBlock] at hq; omega)⟩
                          case rest =>
                            obtain ⟨hown, hnn, hrowW, hbW⟩ := hcut
                            obtain ⟨g3, cap3, rfl, hg3a, hg3b, hg3c⟩ := own_form hown hnn
                            have HO3 := hide hown
                            have HRWc := hide hrowW
                            have HBWc := hide ((unhide HV0).trans (hbW.mono hzV))
                            have hzc : w.heap.size ≤ wc.heap.size := (unhide HBWc).size
                            have hgc : g < wc.heap.size := Nat.lt_of_lt_of_le hgV hbW.size
                            have G1 := hide (own_nil (w := wc) (base := w.heap.size) (T := 9) hzc)
                            have G2 := hide (news_of ((unhide HRWc).alloc (Obj.cells #[] 9)) (piece_take ha) (List.length_take_of_le ha))
                            have G3 := hide ((unhide HO3).alloc (Obj.cells #[] 9))
                            have G4 := hide ((unhide HBWc).alloc hzc (Obj.cells #[] 9))
                            clear hown hnn hrowW hbW yv
                            go_wp2_with (first
                              | (at_builtin; refine wpList_append_own _ rfl _ _ 52 rfl w.heap.size 9 i0 (.string ⟨#[]⟩) 1 16 Try.underlying52 hii hz0 hz1 hz2 rfl (by decide) (.slice (some ⟨wc.heap.size, 0, none⟩) 0 0) 0 [] rfl (unhide G1) ⟨g, 0, none⟩ a c ((D.take a).map Value.string) rfl (by simp; omega) (unhide G2) (one_texts _) (by unfold maxLen; omega) (by omega) (by simp; omega) ?_; intro v1 w10 hown10 hg10 hnil10; have G5 := hide ((unhide G3).kept hg10 (Or.inr (by simp [Value.ownBlock]; omega))); have G6 := hide ((unhide G4).grown hg10 (by simp; omega) (fun q hq => by simp [Value.ownBlock] at hq; omega)); have z10 := (unhide G6).size)
                              | (at_builtin; refine wpList_append_own _ rfl _ _ 52 rfl w.heap.size 9 i0 (.string ⟨#[]⟩) 1 16 Try.underlying52 hii hz0 hz1 hz2 rfl (by decide) v1 (0 + a) _ rfl hown10 ⟨g3, 0, none⟩ (1 + M) cap3 ([.string p.n] ++ (D.drop a).map Value.string) rfl (by have := unhide HM; simp; omega) (news_own (unhide G5)) (by intro u hu; rcases List.mem_append.1 hu with h | h; (simp at h; subst h; rfl); exact one_texts _ u h) (by unfold maxLen; omega) (by omega) z10 ?_; intro v2 w11 hown11 hg11 hnil11)
                              | go_in)
                            obtain ⟨g5, cap5, rfl, hg5a, hg5b, hg5c⟩ := own_form hown11 (fun e => (by have := (hnil11.1 e).2; omega))
                            have hlen := len_ins (x := p.n) ha
                            have hn5 : 0 + a + (1 + M) = (insAt D p.n a).length := by have := unhide HM; rw [hlen]; omega
                            have hown12 := hown11
                            rw [ins_map, hn5] at hown12
                            have HR12 := hide (row_own hown12 rfl (by rw [hlen]; omega))
                            have HB12 := hide ((unhide G6).grown hg11 z10 (fun q hq => (hown10.lt q hq).1))
                            have HD12 : Hid (Risen (insAt D p.n a) ∧ (byL (insAt D p.n a)).Perm (dueL ls (ss.take (i + 1)))) := hide ⟨unhide HIA, by
                              rw [dueL_take (by rw [unhide HLS]; exact unhide HLT), unhide HP, unhide HGD]
                              exact perm_ins.trans ((unhide HD).2.append_right _)⟩
                            have HN5 := hide hn5
                            clear hown10 hown11 hown12 hg10 hg11 hnil10 hnil11 hlen hn5
                            go_roundw
                            case rel => exact ⟨i + 1, g5, cap5, insAt D p.n a, by have := unhide HLT; omega, by rw [unhide HN5], by go_num, hide (fun j hj => by rcases Nat.lt_succ_iff_lt_or_eq.1 hj with h | h; exact unhide HN j h; subst h; exact unhide HY), HD12, by have h1 := len_ins (x := p.n) ha; have h2 := unhide HN5; omega, hg5b, unhide HR12, unhide HB12⟩
                            case measure => have := unhide HLT; simp [intOf]; omega
                      · have ha1 : ¬ (a : Int) < (D.length : Int) := by omega
                        have HNXT : Hid (a < D.length → ltB (elAt D a) p.n = false) := hide fun h => absurd h hal
                        by_cases hca : a = c
                        · subst hca
                          go_wp2_with fail
                          go_quiet (fail)
                          go_upto_region 36 with fail
                          have HV0 : Hid (∀ q, Below w.heap.size w ((wr.drewN n).drewN q)) := hide fun q => (((unhide HBK).trans (bel0d' n)).trans (bel0d' q))
                          have HVR : Hid (∀ q, RowE 1 stC ((wr.drewN n).drewN q) (some ⟨g, 0, none⟩) D.length D) := hide fun q => ((unhide HRK).drewN n).drewN q
                          have yv : ∀ q, ((wr.drewN n).drewN q).cell? ⟨bb, off + i * 4, none⟩ = some (.string p.n) := fun q => y0
                          obtain ⟨V, hV⟩ : ∃ V, V = (wr.drewN n).drewN nq := ⟨_, rfl⟩
                          have HV0 := hide (unhide HV0 nq)
                          have HVR := hide (unhide HVR nq)
                          have yv := yv nq
                          rw [← hV] at HV0 HVR yv ⊢
                          have HIA := hide (risen_ins (unhide HD).1 ha (unhide HA) (unhide HNXT))
                          have hgV : g < V.heap.size := by rw [hV]; exact unhide HGK
                          clear y0 hV hal ha1
                          have hA0 : (0 : Int) ≤ (a : Int) := by omega
                          have hA1 : (a : Int) ≤ (D.length : Int) := by omega
                          have hA2 : (D.length : Int) ≤ (a : Int) := by omega
                          have hD30 : D.length ≤ 30 := by omega
                          have hzV := (unhide HV0).size
                          have F1 : Hid (∀ q, ((V.drewN q).alloc (Obj.cells #[.string p.n] 9)).ownsRow w.heap.size 9 1 (.slice (some ⟨V.heap.size, 0, none⟩) 1 1) 1 [.string p.n]) := hide fun q => own_one (w := V.drewN q) hzV
                          obtain ⟨oA, hoA1, hoA2⟩ : ∃ oA : Nat, (a = a → oA = 0) ∧ (a ≠ a → oA = a) := ⟨if a = a then 0 else a, fun h => if_pos h, fun h => if_neg h⟩
                          have HOA1 := hide hoA1
                          have HOA2 := hide hoA2
                          have F2 : Hid (∀ q, ∀ j u, ((D.drop a).map Value.string)[j]? = some u → ((V.drewN q).alloc (Obj.cells #[.string p.n] 9)).cell? ((⟨g, oA, none⟩ : Addr).add j) = some u) := hide fun q => by
                            by_cases hca : a = a
                            · intro j u hj
                              rw [List.drop_eq_nil_of_le (by omega)] at hj
                              simp at hj
                            · rw [hoA2 hca]; exact news_of (((unhide HVR).drewN q).alloc _) piece_drop rfl
                          clear hoA1 hoA2
                          have F3 : Hid (∀ q, RowE 1 stC ((V.drewN q).alloc (Obj.cells #[.string p.n] 9)) (some ⟨g, 0, none⟩) D.length D) := hide fun q => ((unhide HVR).drewN q).alloc _
                          have F4 : Hid (∀ q, Below V.heap.size V ((V.drewN q).alloc (Obj.cells #[.string p.n] 9))) := hide fun q => (bel0d' q).alloc (Nat.le_refl _) _
                          obtain ⟨M, hM⟩ : ∃ M, M = D.length - a := ⟨_, rfl⟩
                          have HM := hide hM
                          have hM30 : M ≤ 30 := by omega
                          clear hM
                          go_cut [17] from 59 to 177 (fun r W => W.ownsRow w.heap.size 9 1 r (1 + M) ([.string p.n] ++ (D.drop a).map Value.string) ∧ r ≠ .slice none 0 0 ∧ RowE 1 stC W (some ⟨g, 0, none⟩) D.length D ∧ Below V.heap.size V W)
                          case first =>
                            go_region_law (refine step_append_own rfl (.tmp 166) (.tmp 169) 52 rfl w.heap.size 9 i0 (.string ⟨#[]⟩) 1 16 Try.underlying52 hii hz0 hz1 hz2 rfl (by decide) (.slice (some ⟨V.heap.size, 0, none⟩) 1 1) 1 [.string p.n] (by simp [Act.eval]) (unhide F1 _) ⟨g, oA, none⟩ (D.length - a) (a - a) ((D.drop a).map Value.string) (by by_cases hcb : a = a; (first | (simp [Act.eval, unhide HOA1 hcb]; done) | (simp [Act.eval, unhide HOA1 hcb]; omega)); (first | (simp [Act.eval, unhide HOA2 hcb]; done) | (simp [Act.eval, unhide HOA2 hcb]; omega))) (by simp) (unhide F2 _) (one_texts _) (by unfold maxLen; omega) (by omega) (by simp; omega) ?_; intro v9 w9 hown9 hg9 hnil9)
                            all_goals
                              go_wp2_with fail
                              go_meet
                              case rel => exact ⟨by rw [unhide HM]; exact hown9, fun e => (by have := (hnil9.1 e).1; simp at this), (unhide F3 _).far hg9 (by simp [Value.ownBlock]; omega), (unhide F4 _).grown hg9 (by simp) (fun q hq => by simp [Value.ownBlock] at hq; omega)⟩
                          case rest =>
                            obtain ⟨hown, hnn, hrowW, hbW⟩ := hcut
                            obtain ⟨g3, cap3, rfl, hg3a, hg3b, hg3c⟩ := own_form hown hnn
                            have HO3 := hide hown
                            have HRWc := hide hrowW
                            have HBWc := hide ((unhide HV0).trans (hbW.mono hzV))
                            have hzc : w.heap.size ≤ wc.heap.size := (unhide HBWc).size
                            have hgc : g < wc.heap.size := Nat.lt_of_lt_of_le hgV hbW.size
                            have G1 := hide (own_nil (w := wc) (base := w.heap.size) (T := 9) hzc)
                            have G2 := hide (news_of ((unhide HRWc).alloc (Obj.cells #[] 9)) (piece_take ha) (List.length_take_of_le ha))
                            have G3 := hide ((unhide HO3).alloc (Obj.cells #[] 9))
                            have G4 := hide ((unhide HBWc).alloc hzc (Obj.cells #[] 9))
                            clear hown hnn hrowW hbW yv
                            go_wp2_with (first
                              | (at_builtin; refine wpList_append_own _ rfl _ _ 52 rfl w.heap.size 9 i0 (.string ⟨#[]⟩) 1 16 Try.underlying52 hii hz0 hz1 hz2 rfl (by decide) (.slice (some ⟨wc.heap.size, 0, none⟩) 0 0) 0 [] rfl (unhide G1) ⟨g, 0, none⟩ a a ((D.take a).map Value.string) rfl (by simp; omega) (unhide G2) (one_texts _) (by unfold maxLen; omega) (by omega) (by simp; omega) ?_; intro v1 w10 hown10 hg10 hnil10; have G5 := hide ((unhide G3).kept hg10 (Or.inr (by simp [Value.ownBlock]; omega))); have G6 := hide ((unhide G4).grown hg10 (by simp; omega) (fun q hq => by simp [Value.ownBlock] at hq; omega)); have z10 := (unhide G6).size)
                              | (at_builtin; refine wpList_append_own _ rfl _ _ 52 rfl w.heap.size 9 i0 (.string ⟨#[]⟩) 1 16 Try.underlying52 hii hz0 hz1 hz2 rfl (by decide) v1 (0 + a) _ rfl hown10 ⟨g3, 0, none⟩ (1 + M) cap3 ([.string p.n] ++ (D.drop a).map Value.string) rfl (by have := unhide HM; simp; omega) (news_own (unhide G5)) (by intro u hu; rcases List.mem_append.1 hu with h | h; (simp at h; subst h; rfl); exact one_texts _ u h) (by unfold maxLen; omega) (by omega) z10 ?_; intro v2 w11 hown11 hg11 hnil11)
                              | go_in)
                            obtain ⟨g5, cap5, rfl, hg5a, hg5b, hg5c⟩ := own_form hown11 (fun e => (by have := (hnil11.1 e).2; omega))
                            have hlen := len_ins (x := p.n) ha
                            have hn5 : 0 + a + (1 + M) = (insAt D p.n a).length := by have := unhide HM; rw [hlen]; omega
                            have hown12 := hown11
                            rw [ins_map, hn5] at hown12
                            have HR12 := hide (row_own hown12 rfl (by rw [hlen]; omega))
                            have HB12 := hide ((unhide G6).grown hg11 z10 (fun q hq => (hown10.lt q hq).1))
                            have HD12 : Hid (Risen (insAt D p.n a) ∧ (byL (insAt D p.n a)).Perm (dueL ls (ss.take (i + 1)))) := hide ⟨unhide HIA, by
                              rw [dueL_take (by rw [unhide HLS]; exact unhide HLT), unhide HP, unhide HGD]
                              exact perm_ins.trans ((unhide HD).2.append_right _)⟩
                            have HN5 := hide hn5
                            clear hown10 hown11 hown12 hg10 hg11 hnil10 hnil11 hlen hn5
                            go_roundw
                            case rel => exact ⟨i + 1, g5, cap5, insAt D p.n a, by have := unhide HLT; omega, by rw [unhide HN5], by go_num, hide (fun j hj => by rcases Nat.lt_succ_iff_lt_or_eq.1 hj with h | h; exact unhide HN j h; subst h; exact unhide HY), HD12, by have h1 := len_ins (x := p.n) ha; have h2 := unhide HN5; omega, hg5b, unhide HR12, unhide HB12⟩
                            case measure => have := unhide HLT; simp [intOf]; omega
                        · have hca' : ¬ c = a := fun e => hca e.symm
                          clear hca
                          go_wp2_with fail
                          go_quiet (fail)
                          go_upto_region 36 with fail
                          have HV0 : Hid (∀ q, Below w.heap.size w ((wr.drewN n).drewN q)) := hide fun q => (((unhide HBK).trans (bel0d' n)).trans (bel0d' q))
                          have HVR : Hid (∀ q, RowE 1 stC ((wr.drewN n).drewN q) (some ⟨g, 0, none⟩) D.length D) := hide fun q => ((unhide HRK).drewN n).drewN q
                          have yv : ∀ q, ((wr.drewN n).drewN q).cell? ⟨bb, off + i * 4, none⟩ = some (.string p.n) := fun q => y0
                          obtain ⟨V, hV⟩ : ∃ V, V = (wr.drewN n).drewN nq := ⟨_, rfl⟩
                          have HV0 := hide (unhide HV0 nq)
                          have HVR := hide (unhide HVR nq)
                          have yv := yv nq
                          rw [← hV] at HV0 HVR yv ⊢
                          have HIA := hide (risen_ins (unhide HD).1 ha (unhide HA) (unhide HNXT))
                          have hgV : g < V.heap.size := by rw [hV]; exact unhide HGK
                          clear y0 hV hal ha1
                          have hA0 : (0 : Int) ≤ (a : Int) := by omega
                          have hA1 : (a : Int) ≤ (D.length : Int) := by omega
                          have hA2 : (D.length : Int) ≤ (c : Int) := by omega
                          have hD30 : D.length ≤ 30 := by omega
                          have hzV := (unhide HV0).size
                          have F1 : Hid (∀ q, ((V.drewN q).alloc (Obj.cells #[.string p.n] 9)).ownsRow w.heap.size 9 1 (.slice (some ⟨V.heap.size, 0, none⟩) 1 1) 1 [.string p.n]) := hide fun q => own_one (w := V.drewN q) hzV
                          obtain ⟨oA, hoA1, hoA2⟩ : ∃ oA : Nat, (c = a → oA = 0) ∧ (c ≠ a → oA = a) := ⟨if c = a then 0 else a, fun h => if_pos h, fun h => if_neg h⟩
                          have HOA1 := hide hoA1
                          have HOA2 := hide hoA2
                          have F2 : Hid (∀ q, ∀ j u, ((D.drop a).map Value.string)[j]? = some u → ((V.drewN q).alloc (Obj.cells #[.string p.n] 9)).cell? ((⟨g, oA, none⟩ : Addr).add j) = some u) := hide fun q => by
                            by_cases hca : c = a
                            · intro j u hj
                              rw [List.drop_eq_nil_of_le (by omega)] at hj
                              simp at hj
                            · rw [hoA2 hca]; exact news_of (((unhide HVR).drewN q).alloc _) piece_drop rfl
                          clear hoA1 hoA2
                          have F3 : Hid (∀ q, RowE 1 stC ((V.drewN q).alloc (Obj.cells #[.string p.n] 9)) (some ⟨g, 0, none⟩) D.length D) := hide fun q => ((unhide HVR).drewN q).alloc _
                          have F4 : Hid (∀ q, Below V.heap.size V ((V.drewN q).alloc (Obj.cells #[.string p.n] 9))) := hide fun q => (bel0d' q).alloc (Nat.le_refl _) _
                          obtain ⟨M, hM⟩ : ∃ M, M = D.length - a := ⟨_, rfl⟩
                          have HM := hide hM
                          have hM30 : M ≤ 30 := by omega
                          clear hM
                          go_cut [17] from 59 to 177 (fun r W => W.ownsRow w.heap.size 9 1 r (1 + M) ([.string p.n] ++ (D.drop a).map Value.string) ∧ r ≠ .slice none 0 0 ∧ RowE 1 stC W (some ⟨g, 0, none⟩) D.length D ∧ Below V.heap.size V W)
                          case first =>
                            go_region_law (refine step_append_own rfl (.tmp 166) (.tmp 169) 52 rfl w.heap.size 9 i0 (.string ⟨#[]⟩) 1 16 Try.underlying52 hii hz0 hz1 hz2 rfl (by decide) (.slice (some ⟨V.heap.size, 0, none⟩) 1 1) 1 [.string p.n] (by simp [Act.eval]) (unhide F1 _) ⟨g, oA, none⟩ (D.length - a) (c - a) ((D.drop a).map Value.string) (by by_cases hcb : c = a; (first | (simp [Act.eval, unhide HOA1 hcb]; done) | (simp [Act.eval, unhide HOA1 hcb]; omega)); (first | (simp [Act.eval, unhide HOA2 hcb]; done) | (simp [Act.eval, unhide HOA2 hcb]; omega))) (by simp) (unhide F2 _) (one_texts _) (by unfold maxLen; omega) (by omega) (by simp; omega) ?_; intro v9 w9 hown9 hg9 hnil9)
                            all_goals
                              go_wp2_with fail
                              go_meet
                              case rel => exact ⟨by rw [unhide HM]; exact hown9, fun e => (by have := (hnil9.1 e).1; simp at this), (unhide F3 _).far hg9 (by simp [Value.ownBlock]; omega), (unhide F4 _).grown hg9 (by simp) (fun q hq => by simp [Value.ownBlock] at hq; omega)⟩
                          case rest =>
                            obtain ⟨hown, hnn, hrowW, hbW⟩ := hcut
                            obtain ⟨g3, cap3, rfl, hg3a, hg3b, hg3c⟩ := own_form hown hnn
                            have HO3 := hide hown
                            have HRWc := hide hrowW
                            have HBWc := hide ((unhide HV0).trans (hbW.mono hzV))
                            have hzc : w.heap.size ≤ wc.heap.size := (unhide HBWc).size
                            have hgc : g < wc.heap.size := Nat.lt_of_lt_of_le hgV hbW.size
                            have G1 := hide (own_nil (w := wc) (base := w.heap.size) (T := 9) hzc)
                            have G2 := hide (news_of ((unhide HRWc).alloc (Obj.cells #[] 9)) (piece_take ha) (List.length_take_of_le ha))
                            have G3 := hide ((unhide HO3).alloc (Obj.cells #[] 9))
                            have G4 := hide ((unhide HBWc).alloc hzc (Obj.cells #[] 9))
                            clear hown hnn hrowW hbW yv
                            go_wp2_with (first
                              | (at_builtin; refine wpList_append_own _ rfl _ _ 52 rfl w.heap.size 9 i0 (.string ⟨#[]⟩) 1 16 Try.underlying52 hii hz0 hz1 hz2 rfl (by decide) (.slice (some ⟨wc.heap.size, 0, none⟩) 0 0) 0 [] rfl (unhide G1) ⟨g, 0, none⟩ a c ((D.take a).map Value.string) rfl (by simp; omega) (unhide G2) (one_texts _) (by unfold maxLen; omega) (by omega) (by simp; omega) ?_; intro v1 w10 hown10 hg10 hnil10; have G5 := hide ((unhide G3).kept hg10 (Or.inr (by simp [Value.ownBlock]; omega))); have G6 := hide ((unhide G4).grown hg10 (by simp; omega) (fun q hq => by simp [Value.ownBlock] at hq; omega)); have z10 := (unhide G6).size)
                              | (at_builtin; refine wpList_append_own _ rfl _ _ 52 rfl w.heap.size 9 i0 (.string ⟨#[]⟩) 1 16 Try.underlying52 hii hz0 hz1 hz2 rfl (by decide) v1 (0 + a) _ rfl hown10 ⟨g3, 0, none⟩ (1 + M) cap3 ([.string p.n] ++ (D.drop a).map Value.string) rfl (by have := unhide HM; simp; omega) (news_own (unhide G5)) (by intro u hu; rcases List.mem_append.1 hu with h | h; (simp at h; subst h; rfl); exact one_texts _ u h) (by unfold maxLen; omega) (by omega) z10 ?_; intro v2 w11 hown11 hg11 hnil11)
                              | go_in)
                            obtain ⟨g5, cap5, rfl, hg5a, hg5b, hg5c⟩ := own_form hown11 (fun e => (by have := (hnil11.1 e).2; omega))
                            have hlen := len_ins (x := p.n) ha
                            have hn5 : 0 + a + (1 + M) = (insAt D p.n a).length := by have := unhide HM; rw [hlen]; omega
                            have hown12 := hown11
                            rw [ins_map, hn5] at hown12
                            have HR12 := hide (row_own hown12 rfl (by rw [hlen]; omega))
                            have HB12 := hide ((unhide G6).grown hg11 z10 (fun q hq => (hown10.lt q hq).1))
                            have HD12 : Hid (Risen (insAt D p.n a) ∧ (byL (insAt D p.n a)).Perm (dueL ls (ss.take (i + 1)))) := hide ⟨unhide HIA, by
                              rw [dueL_take (by rw [unhide HLS]; exact unhide HLT), unhide HP, unhide HGD]
                              exact perm_ins.trans ((unhide HD).2.append_right _)⟩
                            have HN5 := hide hn5
                            clear hown10 hown11 hown12 hg10 hg11 hnil10 hnil11 hlen hn5
                            go_roundw
                            case rel => exact ⟨i + 1, g5, cap5, insAt D p.n a, by have := unhide HLT; omega, by rw [unhide HN5], by go_num, hide (fun j hj => by rcases Nat.lt_succ_iff_lt_or_eq.1 hj with h | h; exact unhide HN j h; subst h; exact unhide HY), HD12, by have h1 := len_ins (x := p.n) ha; have h2 := unhide HN5; omega, hg5b, unhide HR12, unhide HB12⟩
                            case measure => have := unhide HLT; simp [intOf]; omega

        · have HOK : Hid (dueOk ls ss = true) := hide (by
            unfold dueOk
            rw [unhide HOKL, okB_all (ps := ss) (by have := unhide HG2; have := unhide HLS; omega) (fun j hj => unhide HN j (by have := unhide HLS; omega))]; rfl)
          have HS : Hid (dueS ls ss = D) := hide (dueS_is (unhide HOK) (unhide HD).1 (by
            have e : i = ss.length := by have := unhide HLS; omega
            have := (unhide HD).2
            rw [e] at this; exact this))
          have hi1 : ¬ (i : Int) < (ln : Int) := by omega
          have HB := hide hbel
          clear hbel
          go_wp2_with fail
          go_ret2
          rw [unhide HS, unhide HOK]
          first | exact ⟨_, _, rfl, unhide HRW, unhide HB⟩ | exact ⟨_, ⟨_, rfl⟩, unhide HRW, unhide HB⟩ | exact ⟨_, unhide HRW, _, rfl, unhide HB⟩ | exact ⟨_, unhide HRW, unhide HB⟩

end Go.Proofs.Ytnpohiceefkhdao
